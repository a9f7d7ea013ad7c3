import Derived.Test.YtoklnkojacdciaaG15
import Derived.Test.YtoklnkojacdciaaG43
import Derived.Test.YtoklnkojacdciaaG45
namespace Go.Proofs.Ytoklnkojacdciaa
open Go.RowKit Go.Deep

theorem RssOwn.wide {lo hi lo' hi' : Nat} {w : World} {v : Value} {Xl : List Rs} (h : RssOwn lo hi w v Xl) (h1 : lo' ≤ lo) (h2 : hi ≤ hi') : RssOwn lo' hi' w v Xl := by
  rcases h with h | ⟨b, off, cap, c, X, e1, e2, e3, e4, e5, e6⟩
  · exact Or.inl h
  · exact Or.inr ⟨b, off, cap, c, X, e1, e2, e3, e4, e5, ⟨e6.lt, Nat.le_trans h1 e6.low, e6.bc, Nat.lt_of_lt_of_le e6.bh h2, e6.mono, Nat.le_trans e6.top h2, e6.frz, e6.row⟩⟩
theorem RmsOwn.wide {lo hi lo' hi' : Nat} {w : World} {v : Value} {Xl : List Rm} (h : RmsOwn lo hi w v Xl) (h1 : lo' ≤ lo) (h2 : hi ≤ hi') : RmsOwn lo' hi' w v Xl := by
  rcases h with h | ⟨b, off, cap, c, X, e1, e2, e3, e4, e5, e6⟩
  · exact Or.inl h
  · exact Or.inr ⟨b, off, cap, c, X, e1, e2, e3, e4, e5, ⟨e6.lt, Nat.le_trans h1 e6.low, Nat.lt_of_lt_of_le e6.bh h2, fun i hi' => ⟨Nat.le_trans h1 (e6.seg i hi').1, Nat.le_trans (e6.seg i hi').2.1 h2, (e6.seg i hi').2.2⟩, e6.ap, e6.frz, e6.row⟩⟩
theorem RasOwn.wide {lo hi lo' hi' : Nat} {w : World} {v : Value} {Xl : List Ra} (h : RasOwn lo hi w v Xl) (h1 : lo' ≤ lo) (h2 : hi ≤ hi') : RasOwn lo' hi' w v Xl := by
  rcases h with h | ⟨b, off, cap, c, X, e1, e2, e3, e4, e5, e6⟩
  · exact Or.inl h
  · exact Or.inr ⟨b, off, cap, c, X, e1, e2, e3, e4, e5, ⟨e6.lt, Nat.le_trans h1 e6.low, Nat.lt_of_lt_of_le e6.bh h2, fun i hi' => ⟨Nat.le_trans h1 (e6.seg i hi').1, Nat.le_trans (e6.seg i hi').2.1 h2, (e6.seg i hi').2.2⟩, e6.ap, e6.frz, e6.row⟩⟩
theorem RssOwn.set {lo hi : Nat} {w : World} {v : Value} {Xl : List Rs} (h : RssOwn lo hi w v Xl) {p : Addr} (hp : p.block < lo) (u : Value) : RssOwn lo hi (w.setCell p u) v Xl := h.touch (Touch.setCell p.block (p.block + 1) w p u ⟨Nat.le_refl _, Nat.lt_succ_self _⟩) (Or.inr hp)
theorem RmsOwn.set {lo hi : Nat} {w : World} {v : Value} {Xl : List Rm} (h : RmsOwn lo hi w v Xl) {p : Addr} (hp : p.block < lo) (u : Value) : RmsOwn lo hi (w.setCell p u) v Xl := h.touch (Touch.setCell p.block (p.block + 1) w p u ⟨Nat.le_refl _, Nat.lt_succ_self _⟩) (Or.inr hp)
theorem RasOwn.set {lo hi : Nat} {w : World} {v : Value} {Xl : List Ra} (h : RasOwn lo hi w v Xl) {p : Addr} (hp : p.block < lo) (u : Value) : RasOwn lo hi (w.setCell p u) v Xl := h.touch (Touch.setCell p.block (p.block + 1) w p u ⟨Nat.le_refl _, Nat.lt_succ_self _⟩) (Or.inr hp)
theorem RtsOwn.set {lo hi : Nat} {w : World} {v : Value} {Xl : List ByteArray} (h : RtsOwn lo hi w v Xl) {p : Addr} (hp : p.block < lo) (u : Value) : RtsOwn lo hi (w.setCell p u) v Xl := h.touch (Touch.setCell p.block (p.block + 1) w p u ⟨Nat.le_refl _, Nat.lt_succ_self _⟩) (Or.inr hp)
theorem RisOwn.set {lo hi : Nat} {w : World} {v : Value} {Xl : List Int} (h : RisOwn lo hi w v Xl) {p : Addr} (hp : p.block < lo) (u : Value) : RisOwn lo hi (w.setCell p u) v Xl := h.touch (Touch.setCell p.block (p.block + 1) w p u ⟨Nat.le_refl _, Nat.lt_succ_self _⟩) (Or.inr hp)
end Go.Proofs.Ytoklnkojacdciaa
namespace Go.Proofs.Ytoklnkojacdciaa
open Go.ChangeShapes Go.WideShapes Go.ChangeAt Go.RowKit Go.Deep
theorem Try.cells31 : Try.prog.cellsOf 31 = 1 := by kernel_rfl
section
variable {H : Type} {enc : TypeId × Value → H} {W : World}
set_option maxRecDepth 100000 in
theorem open_Rrs {fuel : Nat} {c : Value} {x : DataW H × List MemPlace} (h : DataW.trod enc Try.prog W 0 (fun _ => true) true fuel 31 [c] = some x) : ∃ Xl, RrsAt 0 W c Xl := by
  rcases open_slice Try.underlying31 h with ⟨hcs, _⟩ | ⟨a, len, cap, m, n, D, Pl, hcs, _, hl, hm, hmm, _, hx⟩
  · simp only [List.cons.injEq, and_true] at hcs
    exact ⟨[], Or.inl ⟨_, _, hcs, rfl⟩⟩
  · simp only [List.cons.injEq, and_true] at hcs
    simp only [if_true] at hmm
    subst hmm
    rw [Try.cells97] at hx
    by_cases h0 : len = 0
    · subst h0
      exact ⟨[], Or.inl ⟨_, _, hcs, rfl⟩⟩
    · obtain ⟨Xl, hF, hall⟩ := choose_list (p := fun i (x : Rr) => ∃ cs', W.cells? 0 (a.add (i * 18)) 18 = some cs' ∧ RrC 0 W cs' x) len (fun i hi => by
        obtain ⟨cs', h1, h2⟩ := hx i (by omega)
        obtain ⟨S, hS⟩ := open_Rr0 h2
        exact ⟨S, cs', h1, hS⟩)
      have hsp : ∃ b off, a = ⟨b, off, none⟩ := by
        obtain ⟨b, off, spot⟩ := a
        obtain ⟨cs', h1, hS⟩ := hall 0 (by omega)
        have := (World.cells?_some h1).2.2 0 (by omega)
        rw [Nat.zero_mul] at this
        have e0 : ((⟨b, off, spot⟩ : Addr).add 0).add 0 = ⟨b, off, spot⟩ := by simp [Addr.add]
        rw [e0, List.getElem?_eq_getElem (by have := hS.len; omega)] at this
        have hs : spot = none := by simpa using World.cell?_spot (by simpa using this)
        exact ⟨b, off, by rw [hs]⟩
      obtain ⟨b, off, rfl⟩ := hsp
      have hrng : ∀ i (cs' : List Value), W.cells? 0 ((⟨b, off, none⟩ : Addr).add (i * 18)) 18 = some cs' → W.rangeAt b (off + i * 18) cs' := fun i cs' h1 j v hv => by
        obtain ⟨_, hln, hc⟩ := World.cells?_some h1
        have hj : j < cs'.length := (List.getElem?_eq_some_iff.1 hv).1
        have q := hc j (by omega)
        rw [add_plain, add_plain] at q
        rw [q, hv]
      have hbw : b < W.heap.size := by
        obtain ⟨cs', h1, hS⟩ := hall 0 (by omega)
        exact World.block_lt_of_cell? W _ (hrng 0 cs' h1 0 _ (List.getElem?_eq_getElem (by have := hS.len; omega)))
      refine ⟨Xl, Or.inr ⟨b, off, m, by rw [hcs, hF], ?_, by omega, hbw, Nat.zero_le _, by omega, fun i hi => ?_⟩⟩
      · intro e; rw [e] at hF; simp at hF; omega
      · obtain ⟨cs', h1, hS⟩ := hall i hi
        exact ⟨cs', hrng i cs' h1, hS⟩
end
theorem Try.cells33 : Try.prog.cellsOf 33 = 1 := by kernel_rfl
theorem Try.cells102 : Try.prog.cellsOf 102 = 2 := by kernel_rfl
theorem lstRx {l : List Value} (h : l.length = 2) : ∃ c0 c1, l = [c0, c1] := by
  match l, h with
  | [c0, c1], _ => exact ⟨c0, c1, rfl⟩
section
variable {H : Type} {enc : TypeId × Value → H} {W : World}
set_option maxRecDepth 100000 in
theorem open_Rx {fuel : Nat} {cs : List Value} {x : DataW H × List MemPlace} (h : DataW.trod enc Try.prog W 0 (fun _ => true) true fuel 102 cs = some x) :
    ∃ (x : Rx), cs = [.int .i64 x.ix, .string x.tx] ∧ RxSize x := by
  obtain ⟨xs, n, _, _, hl, hlen, hfld⟩ := DataW.trod_struct Try.underlying102 h
  obtain ⟨c0, c1, rfl⟩ := lstRx (hl.trans Try.cells102)
  simp only [Array.size, List.length_cons, List.length_nil] at hlen
  have g0 : DataW.trod enc Try.prog W 0 (fun _ => true) true n 3 ((([c0, c1] : List Value).drop 0).take (Try.prog.cellsOf 3)) = xs[0]? := hfld 0 _ rfl
  have g1 : DataW.trod enc Try.prog W 0 (fun _ => true) true n 9 ((([c0, c1] : List Value).drop 1).take (Try.prog.cellsOf 9)) = xs[1]? := hfld 1 _ rfl
  simp only [Try.cells3, Try.cells9, List.drop_succ_cons, List.drop_zero, List.take_succ_cons, List.take_zero] at g0 g1
  rw [List.getElem?_eq_getElem (by omega)] at g0 g1
  obtain ⟨q0, e0, _, _⟩ := DataW.trod_int Try.underlying3 g0
  obtain ⟨q1, e1, _, s1⟩ := DataW.trod_string Try.underlying9 g1
  simp only [List.cons.injEq, and_true] at e0 e1
  subst e0 e1
  exact ⟨⟨q0, q1⟩, rfl, ⟨s1⟩⟩
set_option maxRecDepth 100000 in
theorem open_Rxs {fuel : Nat} {c : Value} {x : DataW H × List MemPlace} (h : DataW.trod enc Try.prog W 0 (fun _ => true) true fuel 33 [c] = some x) : ∃ Xl, RxsAt 0 W c Xl := by
  rcases open_slice Try.underlying33 h with ⟨hcs, _⟩ | ⟨a, len, cap, m, n, D, Pl, hcs, _, hl, hm, hmm, _, hx⟩
  · simp only [List.cons.injEq, and_true] at hcs
    exact ⟨[], Or.inl ⟨_, _, hcs, rfl⟩⟩
  · simp only [List.cons.injEq, and_true] at hcs
    simp only [if_true] at hmm
    subst hmm
    rw [Try.cells102] at hx
    by_cases h0 : len = 0
    · subst h0
      exact ⟨[], Or.inl ⟨_, _, hcs, rfl⟩⟩
    · obtain ⟨Xl, hF, hall⟩ := choose_list (p := fun i (x : Rx) => RxSize x ∧ W.cells? 0 (a.add (i * 2)) 2 = some [.int .i64 x.ix, .string x.tx]) len (fun i hi => by
        obtain ⟨cs', h1, h2⟩ := hx i (by omega)
        obtain ⟨md, e, hz⟩ := open_Rx h2
        rw [e] at h1
        exact ⟨md, hz, h1⟩)
      obtain ⟨b, off, spot⟩ := a
      have hspot : spot = none := by
        obtain ⟨_, h1⟩ := hall 0 (by omega)
        have := (World.cells?_some h1).2.2 0 (by omega)
        rw [Nat.zero_mul] at this
        have e0 : ((⟨b, off, spot⟩ : Addr).add 0).add 0 = ⟨b, off, spot⟩ := by simp [Addr.add]
        rw [e0] at this
        simpa using World.cell?_spot (by simpa using this)
      subst hspot
      have hcell : ∀ i (hi : i < Xl.length), W.cells? 0 ((⟨b, off, none⟩ : Addr).add (i * 2)) 2 = some [.int .i64 Xl[i].ix, .string Xl[i].tx] → RxCells W b (off + i * 2) Xl[i] := fun i hi h1 => by
        obtain ⟨_, _, hc⟩ := World.cells?_some h1
        rw [add_plain] at hc
        have q := fun j (hj : j < 2) => (add_plain b (off + i * 2) j) ▸ hc j hj
        exact ⟨by simpa using q 0 (by omega), by simpa using q 1 (by omega)⟩
      have hbw : b < W.heap.size := by
        obtain ⟨_, h1⟩ := hall 0 (by omega)
        exact World.block_lt_of_cell? W _ (hcell 0 (by omega) h1).c0
      refine ⟨Xl, Or.inr ⟨b, off, m, by rw [hcs, hF], ?_, by omega, hbw, Nat.zero_le _, by omega, fun i hi => ?_⟩⟩
      · intro e; rw [e] at hF; simp at hF; omega
      · obtain ⟨hz, h1⟩ := hall i hi
        exact ⟨hz, hcell i hi h1⟩
end
theorem Try.cells35 : Try.prog.cellsOf 35 = 3 := by kernel_rfl
theorem lstWd {l : List Value} (h : l.length = 3) : ∃ c0 c1 c2, l = [c0, c1, c2] := by
  match l, h with
  | [c0, c1, c2], _ => exact ⟨c0, c1, c2, rfl⟩
section
variable {H : Type} {enc : TypeId × Value → H} {W : World}
set_option maxRecDepth 100000 in
theorem open_Wd0 {fuel : Nat} {cs : List Value} {x : DataW H × List MemPlace} (h : DataW.trod enc Try.prog W 0 (fun _ => true) true fuel 35 cs = some x) : ∃ U, WdC 0 W cs U := by
  obtain ⟨xs, n, _, _, hl, hlen, hfld⟩ := DataW.trod_struct Try.underlying35 h
  obtain ⟨c0, c1, c2, rfl⟩ := lstWd (hl.trans Try.cells35)
  simp only [Array.size, List.length_cons, List.length_nil] at hlen
  have g0 : DataW.trod enc Try.prog W 0 (fun _ => true) true n 31 ((([c0, c1, c2] : List Value).drop 0).take (Try.prog.cellsOf 31)) = xs[0]? := hfld 0 _ rfl
  have g1 : DataW.trod enc Try.prog W 0 (fun _ => true) true n 32 ((([c0, c1, c2] : List Value).drop 1).take (Try.prog.cellsOf 32)) = xs[1]? := hfld 1 _ rfl
  have g2 : DataW.trod enc Try.prog W 0 (fun _ => true) true n 33 ((([c0, c1, c2] : List Value).drop 2).take (Try.prog.cellsOf 33)) = xs[2]? := hfld 2 _ rfl
  simp only [Try.cells33, Try.cells32, Try.cells31, List.drop_succ_cons, List.drop_zero, List.take_succ_cons, List.take_zero] at g0 g1 g2
  rw [List.getElem?_eq_getElem (by omega)] at g0 g1 g2
  obtain ⟨q0, h0⟩ := open_Rrs g0
  obtain ⟨a0, k0, rfl⟩ := h0.form
  obtain ⟨q1, h1⟩ := open_Rms g1
  obtain ⟨a1, k1, rfl⟩ := h1.form
  obtain ⟨q2, h2⟩ := open_Rxs g2
  obtain ⟨a2, k2, rfl⟩ := h2.form
  exact ⟨⟨q0, q1, q2⟩, a0, k0, a1, k1, a2, k2, rfl, ⟨h0, h1, h2⟩⟩
set_option maxRecDepth 100000 in
theorem open_Wd {r : Reach} {b0 : Nat} {v : Value} {d : DataW H} {p : List MemPlace} (hv : Value.okWide Try.prog W r b0 35 v) (h : DataW.Trod enc Try.prog W 0 (fun _ => true) true 35 v d p) : ∃ (cs : List Value) (U : Wd), v = .agg cs.toArray ∧ WdC 0 W cs U := by
  obtain ⟨cs, rfl, hsz⟩ := okWide_struct Try.underlying35 hv
  obtain ⟨fuel, hf⟩ := h
  obtain ⟨U, hU⟩ := open_Wd0 (cs := cs.toList) hf
  exact ⟨cs.toList, U, rfl, hU⟩
end
end Go.Proofs.Ytoklnkojacdciaa
