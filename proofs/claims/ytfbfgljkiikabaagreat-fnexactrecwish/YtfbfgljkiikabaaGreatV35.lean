import Derived.Test.YtfbfgljkiikabaaGreatV32
import Derived.Test.YtfbfgljkiikabaaGreatV34
namespace Go.Proofs.YtfbfgljkiikabaaGreat
open Go.ChangeShapes Go.WideShapes Go.ChangeAt Go.RowKit Go.Deep
theorem Tryz.cells27 : Tryz.prog.cellsOf 27 = 1 := by kernel_rfl
section
variable {H : Type} {enc : TypeId × Value → H} {W : World}
set_option maxRecDepth 100000 in
theorem open_Ris {fuel : Nat} {c : Value} {x : DataW H × List MemPlace} (h : DataW.trod enc Tryz.prog W 0 (fun _ => true) true fuel 27 [c] = some x) : ∃ Xl, RisAt 0 W c Xl := by
  rcases open_slice Tryz.underlying27 h with ⟨hcs, _⟩ | ⟨a, len, cap, m, n, D, Pl, hcs, _, hl, hm, hmm, _, hx⟩
  · simp only [List.cons.injEq, and_true] at hcs
    exact ⟨[], Or.inl ⟨_, _, hcs, rfl⟩⟩
  · simp only [List.cons.injEq, and_true] at hcs
    simp only [if_true] at hmm
    subst hmm
    rw [Tryz.cells3] at hx
    by_cases h0 : len = 0
    · subst h0
      exact ⟨[], Or.inl ⟨_, _, hcs, rfl⟩⟩
    · obtain ⟨Xl, hF, hall⟩ := choose_list (p := fun i (x : Int) => RiSize x ∧ W.cells? 0 (a.add (i * 1)) 1 = some [.int .i64 x]) len (fun i hi => by
        obtain ⟨cs', h1, h2⟩ := hx i (by omega)
        obtain ⟨q1, e1, _, s1⟩ := DataW.trod_int Tryz.underlying3 h2
        rw [e1] at h1
        exact ⟨q1, rfl, h1⟩)
      obtain ⟨b, off, spot⟩ := a
      have hspot : spot = none := by
        obtain ⟨_, h1⟩ := hall 0 (by omega)
        have := (World.cells?_some h1).2.2 0 (by omega)
        rw [Nat.zero_mul] at this
        have e0 : ((⟨b, off, spot⟩ : Addr).add 0).add 0 = ⟨b, off, spot⟩ := by simp [Addr.add]
        rw [e0] at this
        simpa using World.cell?_spot (by simpa using this)
      subst hspot
      have hcell : ∀ i (hi : i < Xl.length), W.cells? 0 ((⟨b, off, none⟩ : Addr).add (i * 1)) 1 = some [.int .i64 Xl[i]] → W.cell? ⟨b, off + i, none⟩ = some (.int .i64 Xl[i]) := fun i hi h1 => by
        obtain ⟨_, _, hc⟩ := World.cells?_some h1
        rw [add_plain, Nat.mul_one] at hc
        have q := (add_plain b (off + i) 0) ▸ hc 0 (by omega)
        simpa using q
      have hbw : b < W.heap.size := by
        obtain ⟨_, h1⟩ := hall 0 (by omega)
        exact World.block_lt_of_cell? W _ (hcell 0 (by omega) h1)
      refine ⟨Xl, Or.inr ⟨b, off, m, by rw [hcs, hF], ?_, by omega, hbw, Nat.zero_le _, by omega, fun i hi => ?_⟩⟩
      · intro e; rw [e] at hF; simp at hF; omega
      · obtain ⟨hz, h1⟩ := hall i hi
        exact ⟨hz, hcell i hi h1⟩
end
theorem Tryz.cells26 : Tryz.prog.cellsOf 26 = 1 := by kernel_rfl
section
variable {H : Type} {enc : TypeId × Value → H} {W : World}
set_option maxRecDepth 100000 in
theorem open_Rts {fuel : Nat} {c : Value} {x : DataW H × List MemPlace} (h : DataW.trod enc Tryz.prog W 0 (fun _ => true) true fuel 26 [c] = some x) : ∃ Xl, RtsAt 0 W c Xl := by
  rcases open_slice Tryz.underlying26 h with ⟨hcs, _⟩ | ⟨a, len, cap, m, n, D, Pl, hcs, _, hl, hm, hmm, _, hx⟩
  · simp only [List.cons.injEq, and_true] at hcs
    exact ⟨[], Or.inl ⟨_, _, hcs, rfl⟩⟩
  · simp only [List.cons.injEq, and_true] at hcs
    simp only [if_true] at hmm
    subst hmm
    rw [Tryz.cells9] at hx
    by_cases h0 : len = 0
    · subst h0
      exact ⟨[], Or.inl ⟨_, _, hcs, rfl⟩⟩
    · obtain ⟨Xl, hF, hall⟩ := choose_list (p := fun i (x : ByteArray) => RtSize x ∧ W.cells? 0 (a.add (i * 1)) 1 = some [.string x]) len (fun i hi => by
        obtain ⟨cs', h1, h2⟩ := hx i (by omega)
        obtain ⟨q1, e1, _, s1⟩ := DataW.trod_string Tryz.underlying9 h2
        rw [e1] at h1
        exact ⟨q1, s1, h1⟩)
      obtain ⟨b, off, spot⟩ := a
      have hspot : spot = none := by
        obtain ⟨_, h1⟩ := hall 0 (by omega)
        have := (World.cells?_some h1).2.2 0 (by omega)
        rw [Nat.zero_mul] at this
        have e0 : ((⟨b, off, spot⟩ : Addr).add 0).add 0 = ⟨b, off, spot⟩ := by simp [Addr.add]
        rw [e0] at this
        simpa using World.cell?_spot (by simpa using this)
      subst hspot
      have hcell : ∀ i (hi : i < Xl.length), W.cells? 0 ((⟨b, off, none⟩ : Addr).add (i * 1)) 1 = some [.string Xl[i]] → W.cell? ⟨b, off + i, none⟩ = some (.string Xl[i]) := fun i hi h1 => by
        obtain ⟨_, _, hc⟩ := World.cells?_some h1
        rw [add_plain, Nat.mul_one] at hc
        have q := (add_plain b (off + i) 0) ▸ hc 0 (by omega)
        simpa using q
      have hbw : b < W.heap.size := by
        obtain ⟨_, h1⟩ := hall 0 (by omega)
        exact World.block_lt_of_cell? W _ (hcell 0 (by omega) h1)
      refine ⟨Xl, Or.inr ⟨b, off, m, by rw [hcs, hF], ?_, by omega, hbw, Nat.zero_le _, by omega, fun i hi => ?_⟩⟩
      · intro e; rw [e] at hF; simp at hF; omega
      · obtain ⟨hz, h1⟩ := hall i hi
        exact ⟨hz, hcell i hi h1⟩
end
theorem Tryz.cells104 : Tryz.prog.cellsOf 104 = 2 := by kernel_rfl
theorem lstRa {l : List Value} (h : l.length = 2) : ∃ c0 c1, l = [c0, c1] := by
  match l, h with
  | [c0, c1], _ => exact ⟨c0, c1, rfl⟩
section
variable {H : Type} {enc : TypeId × Value → H} {W : World}
set_option maxRecDepth 100000 in
theorem open_Ra0 {fuel : Nat} {cs : List Value} {x : DataW H × List MemPlace} (h : DataW.trod enc Tryz.prog W 0 (fun _ => true) true fuel 104 cs = some x) : ∃ U, RaC 0 W cs U := by
  obtain ⟨xs, n, _, _, hl, hlen, hfld⟩ := DataW.trod_struct Tryz.underlying104 h
  obtain ⟨c0, c1, rfl⟩ := lstRa (hl.trans Tryz.cells104)
  simp only [Array.size, List.length_cons, List.length_nil] at hlen
  have g0 : DataW.trod enc Tryz.prog W 0 (fun _ => true) true n 3 ((([c0, c1] : List Value).drop 0).take (Tryz.prog.cellsOf 3)) = xs[0]? := hfld 0 _ rfl
  have g1 : DataW.trod enc Tryz.prog W 0 (fun _ => true) true n 27 ((([c0, c1] : List Value).drop 1).take (Tryz.prog.cellsOf 27)) = xs[1]? := hfld 1 _ rfl
  simp only [Tryz.cells3, Tryz.cells27, List.drop_succ_cons, List.drop_zero, List.take_succ_cons, List.take_zero] at g0 g1
  rw [List.getElem?_eq_getElem (by omega)] at g0 g1
  obtain ⟨q0, e0, _, _⟩ := DataW.trod_int Tryz.underlying3 g0
  simp only [List.cons.injEq, and_true] at e0
  subst e0
  obtain ⟨q1, h1⟩ := open_Ris g1
  obtain ⟨a0, k0, rfl⟩ := h1.form
  exact ⟨⟨q0, q1⟩, a0, k0, rfl, ⟨h1⟩⟩
set_option maxRecDepth 100000 in
theorem open_Ra {r : Reach} {b0 : Nat} {v : Value} {d : DataW H} {p : List MemPlace} (hv : Value.okWide Tryz.prog W r b0 104 v) (h : DataW.Trod enc Tryz.prog W 0 (fun _ => true) true 104 v d p) : ∃ (cs : List Value) (U : Ra), v = .agg cs.toArray ∧ RaC 0 W cs U := by
  obtain ⟨cs, rfl, hsz⟩ := okWide_struct Tryz.underlying104 hv
  obtain ⟨fuel, hf⟩ := h
  obtain ⟨U, hU⟩ := open_Ra0 (cs := cs.toList) hf
  exact ⟨cs.toList, U, rfl, hU⟩
end
theorem Tryz.cells25 : Tryz.prog.cellsOf 25 = 1 := by kernel_rfl
section
variable {H : Type} {enc : TypeId × Value → H} {W : World}
set_option maxRecDepth 100000 in
theorem open_Rms {fuel : Nat} {c : Value} {x : DataW H × List MemPlace} (h : DataW.trod enc Tryz.prog W 0 (fun _ => true) true fuel 25 [c] = some x) : ∃ Xl, RmsAt 0 W c Xl := by
  rcases open_slice Tryz.underlying25 h with ⟨hcs, _⟩ | ⟨a, len, cap, m, n, D, Pl, hcs, _, hl, hm, hmm, _, hx⟩
  · simp only [List.cons.injEq, and_true] at hcs
    exact ⟨[], Or.inl ⟨_, _, hcs, rfl⟩⟩
  · simp only [List.cons.injEq, and_true] at hcs
    simp only [if_true] at hmm
    subst hmm
    rw [Tryz.cells32] at hx
    by_cases h0 : len = 0
    · subst h0
      exact ⟨[], Or.inl ⟨_, _, hcs, rfl⟩⟩
    · obtain ⟨Xl, hF, hall⟩ := choose_list (p := fun i (x : Rm) => ∃ cs', W.cells? 0 (a.add (i * 8)) 8 = some cs' ∧ RmC 0 W cs' x) len (fun i hi => by
        obtain ⟨cs', h1, h2⟩ := hx i (by omega)
        obtain ⟨S, hS⟩ := open_Rm0 h2
        exact ⟨S, cs', h1, hS⟩)
      have hsp : ∃ b off, a = ⟨b, off, none⟩ := by
        obtain ⟨b, off, spot⟩ := a
        obtain ⟨cs', h1, hS⟩ := hall 0 (by omega)
        have := (World.cells?_some h1).2.2 0 (by omega)
        rw [Nat.zero_mul] at this
        have e0 : ((⟨b, off, spot⟩ : Addr).add 0).add 0 = ⟨b, off, spot⟩ := by simp [Addr.add]
        rw [e0, List.getElem?_eq_getElem (by have := hS.len; omega)] at this
        have hs : spot = none := by simpa using World.cell?_spot (by simpa using this)
        exact ⟨b, off, by rw [hs]⟩
      obtain ⟨b, off, rfl⟩ := hsp
      have hrng : ∀ i (cs' : List Value), W.cells? 0 ((⟨b, off, none⟩ : Addr).add (i * 8)) 8 = some cs' → W.rangeAt b (off + i * 8) cs' := fun i cs' h1 j v hv => by
        obtain ⟨_, hln, hc⟩ := World.cells?_some h1
        have hj : j < cs'.length := (List.getElem?_eq_some_iff.1 hv).1
        have q := hc j (by omega)
        rw [add_plain, add_plain] at q
        rw [q, hv]
      have hbw : b < W.heap.size := by
        obtain ⟨cs', h1, hS⟩ := hall 0 (by omega)
        exact World.block_lt_of_cell? W _ (hrng 0 cs' h1 0 _ (List.getElem?_eq_getElem (by have := hS.len; omega)))
      refine ⟨Xl, Or.inr ⟨b, off, m, by rw [hcs, hF], ?_, by omega, hbw, Nat.zero_le _, by omega, fun i hi => ?_⟩⟩
      · intro e; rw [e] at hF; simp at hF; omega
      · obtain ⟨cs', h1, hS⟩ := hall i hi
        exact ⟨cs', hrng i cs' h1, hS⟩
end
theorem Tryz.cells28 : Tryz.prog.cellsOf 28 = 1 := by kernel_rfl
section
variable {H : Type} {enc : TypeId × Value → H} {W : World}
set_option maxRecDepth 100000 in
theorem open_Ras {fuel : Nat} {c : Value} {x : DataW H × List MemPlace} (h : DataW.trod enc Tryz.prog W 0 (fun _ => true) true fuel 28 [c] = some x) : ∃ Xl, RasAt 0 W c Xl := by
  rcases open_slice Tryz.underlying28 h with ⟨hcs, _⟩ | ⟨a, len, cap, m, n, D, Pl, hcs, _, hl, hm, hmm, _, hx⟩
  · simp only [List.cons.injEq, and_true] at hcs
    exact ⟨[], Or.inl ⟨_, _, hcs, rfl⟩⟩
  · simp only [List.cons.injEq, and_true] at hcs
    simp only [if_true] at hmm
    subst hmm
    rw [Tryz.cells104] at hx
    by_cases h0 : len = 0
    · subst h0
      exact ⟨[], Or.inl ⟨_, _, hcs, rfl⟩⟩
    · obtain ⟨Xl, hF, hall⟩ := choose_list (p := fun i (x : Ra) => ∃ cs', W.cells? 0 (a.add (i * 2)) 2 = some cs' ∧ RaC 0 W cs' x) len (fun i hi => by
        obtain ⟨cs', h1, h2⟩ := hx i (by omega)
        obtain ⟨S, hS⟩ := open_Ra0 h2
        exact ⟨S, cs', h1, hS⟩)
      have hsp : ∃ b off, a = ⟨b, off, none⟩ := by
        obtain ⟨b, off, spot⟩ := a
        obtain ⟨cs', h1, hS⟩ := hall 0 (by omega)
        have := (World.cells?_some h1).2.2 0 (by omega)
        rw [Nat.zero_mul] at this
        have e0 : ((⟨b, off, spot⟩ : Addr).add 0).add 0 = ⟨b, off, spot⟩ := by simp [Addr.add]
        rw [e0, List.getElem?_eq_getElem (by have := hS.len; omega)] at this
        have hs : spot = none := by simpa using World.cell?_spot (by simpa using this)
        exact ⟨b, off, by rw [hs]⟩
      obtain ⟨b, off, rfl⟩ := hsp
      have hrng : ∀ i (cs' : List Value), W.cells? 0 ((⟨b, off, none⟩ : Addr).add (i * 2)) 2 = some cs' → W.rangeAt b (off + i * 2) cs' := fun i cs' h1 j v hv => by
        obtain ⟨_, hln, hc⟩ := World.cells?_some h1
        have hj : j < cs'.length := (List.getElem?_eq_some_iff.1 hv).1
        have q := hc j (by omega)
        rw [add_plain, add_plain] at q
        rw [q, hv]
      have hbw : b < W.heap.size := by
        obtain ⟨cs', h1, hS⟩ := hall 0 (by omega)
        exact World.block_lt_of_cell? W _ (hrng 0 cs' h1 0 _ (List.getElem?_eq_getElem (by have := hS.len; omega)))
      refine ⟨Xl, Or.inr ⟨b, off, m, by rw [hcs, hF], ?_, by omega, hbw, Nat.zero_le _, by omega, fun i hi => ?_⟩⟩
      · intro e; rw [e] at hF; simp at hF; omega
      · obtain ⟨cs', h1, hS⟩ := hall i hi
        exact ⟨cs', hrng i cs' h1, hS⟩
end
end Go.Proofs.YtfbfgljkiikabaaGreat
namespace Go.Proofs.YtfbfgljkiikabaaGreat
open Go.RowKit Go.Deep

def rrF (U : Rr) (b : Nat → Option Addr) (m : Nat → Nat) : List Value := rrL U (b 0) (m 0) (b 1) (m 1) (b 2) (m 2) (b 3) (m 3) (b 4) (m 4) (b 5) (m 5) (b 6) (m 6)
abbrev CpF (w : World) (lo : Nat) (c : Nat → Nat × Nat) (b : Nat → Option Addr) (m : Nat → Nat) (U : Rr) : Prop :=
  Cpn w lo c (.slice (b 0) U.sf.sl.length (m 0)) (.slice (b 1) U.dk.sl.length (m 1)) (.slice (b 2) U.he.length (m 2)) (.slice (b 3) U.wi.length (m 3)) (.slice (b 4) U.ye.length (m 4)) (.slice (b 5) U.be.length (m 5)) (.slice (b 6) U.ac.length (m 6)) U
/-- a recorder at work: its box γ, its lists in parts apart from γ and from the blocks K that are to be kept -/
structure Rw (K : Nat → Prop) (lo : Nat) (w : World) (γ : Nat) (b : Nat → Option Addr) (m : Nat → Nat) (c : Nat → Nat × Nat) (U : Rr) : Prop where
  box : Box w γ (rrF U b m).toArray
  cp : CpF w lo c b m U
  low : lo ≤ w.heap.size
  far : ∀ i, i < 7 → γ < (c i).1 ∨ (c i).2 ≤ γ
  prot : ∀ k, K k → k < w.heap.size ∧ k ≠ γ ∧ ∀ i, i < 7 → k < (c i).1 ∨ (c i).2 ≤ k
def Wr (K : Nat → Prop) (lo : Nat) (w : World) (γ : Nat) (U : Rr) : Prop := ∃ b m c, Rw K lo w γ b m c U
theorem Rw.shield {K K' : Nat → Prop} {lo : Nat} {w w' : World} {γ : Nat} {b : Nat → Option Addr} {m : Nat → Nat} {c : Nat → Nat × Nat} {U : Rr} (h : Rw K lo w γ b m c U) (hb : Below w.heap.size w w') (hk : ∀ k, K' k → K k ∨ (w.heap.size ≤ k ∧ k < w'.heap.size)) : Rw K' lo w' γ b m c U := by
  have hsz := hb.size
  refine ⟨h.box.on hb, h.cp.below hb, Nat.le_trans h.low hsz, h.far, fun k hk' => ?_⟩
  rcases hk k hk' with h1 | ⟨h1, h2⟩
  · have := h.prot k h1
    exact ⟨by omega, this.2⟩
  · refine ⟨h2, by have := h.box.lt; omega, fun i hi => Or.inr ?_⟩
    have := (h.cp.seg i hi).2
    omega
theorem Rw.on {K : Nat → Prop} {lo : Nat} {w w' : World} {γ : Nat} {b : Nat → Option Addr} {m : Nat → Nat} {c : Nat → Nat × Nat} {U : Rr} (h : Rw K lo w γ b m c U) (hb : Below w.heap.size w w') : Rw K lo w' γ b m c U := h.shield hb fun _ h => Or.inl h
theorem Wr.shield {K K' : Nat → Prop} {lo : Nat} {w w' : World} {γ : Nat} {U : Rr} (h : Wr K lo w γ U) (hb : Below w.heap.size w w') (hk : ∀ k, K' k → K k ∨ (w.heap.size ≤ k ∧ k < w'.heap.size)) : Wr K' lo w' γ U := by
  obtain ⟨b, m, c, h⟩ := h
  exact ⟨b, m, c, h.shield hb hk⟩
theorem Wr.less {K K' : Nat → Prop} {lo : Nat} {w : World} {γ : Nat} {U : Rr} (h : Wr K lo w γ U) (hk : ∀ k, K' k → K k) : Wr K' lo w γ U := h.shield (Below.refl _ _) fun k h => Or.inl (hk k h)
/-- a store into a block that is kept -/
theorem Rw.other {K : Nat → Prop} {lo : Nat} {w w' : World} {γ : Nat} {b : Nat → Option Addr} {m : Nat → Nat} {c : Nat → Nat × Nat} {U : Rr} (h : Rw K lo w γ b m c U) {β : Nat} (hβ : K β) (ht : Touch β (β + 1) w w') : Rw K lo w' γ b m c U := by
  have hp := h.prot β hβ
  have hsz := ht.size
  exact ⟨h.box.tch2 ht (by have := hp.2.1; omega), h.cp.touch ht (fun i hi => by have := hp.2.2 i hi; omega), Nat.le_trans h.low hsz, h.far, fun k hk => by have := h.prot k hk; exact ⟨by omega, this.2⟩⟩
/-- a scalar of the box -/
theorem Rw.scal {K : Nat → Prop} {lo : Nat} {w : World} {γ : Nat} {b : Nat → Option Addr} {m : Nat → Nat} {c : Nat → Nat × Nat} {U U' : Rr} (h : Rw K lo w γ b m c U) {j : Nat} {v : Value} (hj : j < (rrF U b m).toArray.size) (he : (rrF U b m).toArray.set j v hj = (rrF U' b m).toArray) (hc : ∀ W, CpF W lo c b m U → CpF W lo c b m U') :
    Rw K lo (w.setCell ⟨γ, j, none⟩ v) γ b m c U' ∧ Kept K w (w.setCell ⟨γ, j, none⟩ v) := by
  have ht : Touch γ (γ + 1) w (w.setCell ⟨γ, j, none⟩ v) := Touch.setCell _ _ _ _ _ ⟨Nat.le_refl _, Nat.lt_succ_self _⟩
  refine ⟨⟨by rw [← he]; exact h.box.set v hj, hc _ (h.cp.touch ht (fun i hi => by have := h.far i hi; omega)), Nat.le_trans h.low ht.size, h.far, fun k hk => ?_⟩, Kept.touch ht fun k hk => ?_⟩
  · have := h.prot k hk
    exact ⟨Nat.lt_of_lt_of_le this.1 ht.size, this.2⟩
  · have := h.prot k hk
    omega
theorem Rw.own {K : Nat → Prop} {lo : Nat} {w : World} {γ : Nat} {b : Nat → Option Addr} {m : Nat → Nat} {c : Nat → Nat × Nat} {U : Rr} (h : Rw K lo w γ b m c U) (hz : RrZ U) : RrOwn lo w.heap.size w (rrF U b m) U :=
  ⟨b 0, m 0, b 1, m 1, b 2, m 2, b 3, m 3, b 4, m 4, b 5, m 5, b 6, m 6, c, rfl, h.cp.own hz⟩
theorem Cpn.grow0 {w w' : World} {lo : Nat} {c : Nat → Nat × Nat} {v0 v1 v2 v3 v4 v5 v6 v' : Value} {U : Rr} {L' : List Rs} (h : Cpn w lo c v0 v1 v2 v3 v4 v5 v6 U) (ht : Touch (c 0).1 (c 0).2 w w') (hlo : lo ≤ w.heap.size) {p : Nat × Nat} (hp : p = c 0 ∨ (w.heap.size ≤ p.1 ∧ p.2 ≤ w'.heap.size)) (hr : NRow rsL 2 w' p.1 p.2 v' L') : Cpn w' lo (upd c 0 p) v' v1 v2 v3 v4 v5 v6 { U with sf := { U.sf with sl := L' } } := by
  have hsz := ht.size
  have hs0 := h.seg 0 (by decide)
  refine ⟨fun k hk => ?_, fun k j hk hj hne => ?_, hr, h.o1.touch ht (h.ap 1 0 (by decide) (by decide) (by decide)), (by obtain ⟨L2, h2, e2⟩ := h.o2; exact ⟨L2, h2.touch cloM ht (h.ap 2 0 (by decide) (by decide) (by decide)), e2⟩), h.o3.touch ht (h.ap 3 0 (by decide) (by decide) (by decide)), h.o4.touch ht (h.ap 4 0 (by decide) (by decide) (by decide)), h.o5.touch ht (h.ap 5 0 (by decide) (by decide) (by decide)), (by obtain ⟨L6, h6, e6⟩ := h.o6; exact ⟨L6, h6.touch cloA ht (h.ap 6 0 (by decide) (by decide) (by decide)), e6⟩)⟩
  · by_cases e : k = 0
    · subst e
      rw [upd_same]
      rcases hp with rfl | hp <;> omega
    · rw [upd_ne _ _ e]
      have := h.seg k hk
      omega
  · by_cases e : k = 0
    · subst e
      rw [upd_same, upd_ne _ _ (Ne.symm hne)]
      have := h.seg j hj
      rcases hp with rfl | hp
      · exact h.ap _ j hk hj hne
      · omega
    · rw [upd_ne _ _ e]
      by_cases e' : j = 0
      · subst e'
        rw [upd_same]
        have := h.seg k hk
        rcases hp with rfl | hp
        · exact h.ap k _ hk hj hne
        · omega
      · rw [upd_ne _ _ e']
        exact h.ap k j hk hj hne
theorem Rw.part0 {K : Nat → Prop} {lo : Nat} {w w' : World} {γ : Nat} {b : Nat → Option Addr} {m : Nat → Nat} {c : Nat → Nat × Nat} {U : Rr} {L' : List Rs} {a' : Option Addr} {m' : Nat} (h : Rw K lo w γ b m c U) (ht : Touch (c 0).1 (c 0).2 w w') {p : Nat × Nat} (hp : p = c 0 ∨ (w.heap.size ≤ p.1 ∧ p.2 ≤ w'.heap.size)) (hr : NRow rsL 2 w' p.1 p.2 (.slice a' L'.length m') L') :
    Rw K lo (w'.setCell ⟨γ, 5, none⟩ (.slice a' L'.length m')) γ (upd b 0 a') (upd m 0 m') (upd c 0 p) { U with sf := { U.sf with sl := L' } } ∧ Kept K w (w'.setCell ⟨γ, 5, none⟩ (.slice a' L'.length m')) := by
  have hsz := ht.size
  have ht2 : Touch γ (γ + 1) w' (w'.setCell ⟨γ, 5, none⟩ (.slice a' L'.length m')) := Touch.setCell _ _ _ _ _ ⟨Nat.le_refl _, Nat.lt_succ_self _⟩
  have hsz2 := ht2.size
  have hγ := h.box.lt
  have hfar : ∀ k, k < 7 → γ < (upd c 0 p k).1 ∨ (upd c 0 p k).2 ≤ γ := fun k hk => by
    by_cases e : k = 0
    · subst e
      rw [upd_same]
      rcases hp with rfl | hp
      · exact h.far _ hk
      · omega
    · rw [upd_ne _ _ e]
      exact h.far k hk
  refine ⟨⟨?_, ?_, by have := h.low; omega, hfar, fun k hk => ?_⟩, ?_⟩
  · have hb := (h.box.tch2 ht (h.far 0 (by decide))).set (k := 5) (.slice a' L'.length m') (by show 5 < 18; omega)
    exact hb
  · have hc := (Cpn.grow0 (v' := .slice a' L'.length m') h.cp ht h.low hp hr).touch ht2 (fun k hk => by have := hfar k hk; omega)
    exact hc
  · have := h.prot k hk
    refine ⟨by omega, this.2.1, fun j hj => ?_⟩
    by_cases e : j = 0
    · subst e
      rw [upd_same]
      rcases hp with rfl | hp
      · exact this.2.2 _ hj
      · omega
    · rw [upd_ne _ _ e]
      exact this.2.2 j hj
  · refine (Kept.touch ht fun k hk => ?_).trans (Kept.touch ht2 fun k hk => ?_)
    · have := h.prot k hk
      exact ⟨this.1, this.2.2 0 (by decide)⟩
    · have := h.prot k hk
      omega
theorem Cpn.grow1 {w w' : World} {lo : Nat} {c : Nat → Nat × Nat} {v0 v1 v2 v3 v4 v5 v6 v' : Value} {U : Rr} {L' : List Rs} (h : Cpn w lo c v0 v1 v2 v3 v4 v5 v6 U) (ht : Touch (c 1).1 (c 1).2 w w') (hlo : lo ≤ w.heap.size) {p : Nat × Nat} (hp : p = c 1 ∨ (w.heap.size ≤ p.1 ∧ p.2 ≤ w'.heap.size)) (hr : NRow rsL 2 w' p.1 p.2 v' L') : Cpn w' lo (upd c 1 p) v0 v' v2 v3 v4 v5 v6 { U with dk := { U.dk with sl := L' } } := by
  have hsz := ht.size
  have hs1 := h.seg 1 (by decide)
  refine ⟨fun k hk => ?_, fun k j hk hj hne => ?_, h.o0.touch ht (h.ap 0 1 (by decide) (by decide) (by decide)), hr, (by obtain ⟨L2, h2, e2⟩ := h.o2; exact ⟨L2, h2.touch cloM ht (h.ap 2 1 (by decide) (by decide) (by decide)), e2⟩), h.o3.touch ht (h.ap 3 1 (by decide) (by decide) (by decide)), h.o4.touch ht (h.ap 4 1 (by decide) (by decide) (by decide)), h.o5.touch ht (h.ap 5 1 (by decide) (by decide) (by decide)), (by obtain ⟨L6, h6, e6⟩ := h.o6; exact ⟨L6, h6.touch cloA ht (h.ap 6 1 (by decide) (by decide) (by decide)), e6⟩)⟩
  · by_cases e : k = 1
    · subst e
      rw [upd_same]
      rcases hp with rfl | hp <;> omega
    · rw [upd_ne _ _ e]
      have := h.seg k hk
      omega
  · by_cases e : k = 1
    · subst e
      rw [upd_same, upd_ne _ _ (Ne.symm hne)]
      have := h.seg j hj
      rcases hp with rfl | hp
      · exact h.ap _ j hk hj hne
      · omega
    · rw [upd_ne _ _ e]
      by_cases e' : j = 1
      · subst e'
        rw [upd_same]
        have := h.seg k hk
        rcases hp with rfl | hp
        · exact h.ap k _ hk hj hne
        · omega
      · rw [upd_ne _ _ e']
        exact h.ap k j hk hj hne
theorem Rw.part1 {K : Nat → Prop} {lo : Nat} {w w' : World} {γ : Nat} {b : Nat → Option Addr} {m : Nat → Nat} {c : Nat → Nat × Nat} {U : Rr} {L' : List Rs} {a' : Option Addr} {m' : Nat} (h : Rw K lo w γ b m c U) (ht : Touch (c 1).1 (c 1).2 w w') {p : Nat × Nat} (hp : p = c 1 ∨ (w.heap.size ≤ p.1 ∧ p.2 ≤ w'.heap.size)) (hr : NRow rsL 2 w' p.1 p.2 (.slice a' L'.length m') L') :
    Rw K lo (w'.setCell ⟨γ, 8, none⟩ (.slice a' L'.length m')) γ (upd b 1 a') (upd m 1 m') (upd c 1 p) { U with dk := { U.dk with sl := L' } } ∧ Kept K w (w'.setCell ⟨γ, 8, none⟩ (.slice a' L'.length m')) := by
  have hsz := ht.size
  have ht2 : Touch γ (γ + 1) w' (w'.setCell ⟨γ, 8, none⟩ (.slice a' L'.length m')) := Touch.setCell _ _ _ _ _ ⟨Nat.le_refl _, Nat.lt_succ_self _⟩
  have hsz2 := ht2.size
  have hγ := h.box.lt
  have hfar : ∀ k, k < 7 → γ < (upd c 1 p k).1 ∨ (upd c 1 p k).2 ≤ γ := fun k hk => by
    by_cases e : k = 1
    · subst e
      rw [upd_same]
      rcases hp with rfl | hp
      · exact h.far _ hk
      · omega
    · rw [upd_ne _ _ e]
      exact h.far k hk
  refine ⟨⟨?_, ?_, by have := h.low; omega, hfar, fun k hk => ?_⟩, ?_⟩
  · have hb := (h.box.tch2 ht (h.far 1 (by decide))).set (k := 8) (.slice a' L'.length m') (by show 8 < 18; omega)
    exact hb
  · have hc := (Cpn.grow1 (v' := .slice a' L'.length m') h.cp ht h.low hp hr).touch ht2 (fun k hk => by have := hfar k hk; omega)
    exact hc
  · have := h.prot k hk
    refine ⟨by omega, this.2.1, fun j hj => ?_⟩
    by_cases e : j = 1
    · subst e
      rw [upd_same]
      rcases hp with rfl | hp
      · exact this.2.2 _ hj
      · omega
    · rw [upd_ne _ _ e]
      exact this.2.2 j hj
  · refine (Kept.touch ht fun k hk => ?_).trans (Kept.touch ht2 fun k hk => ?_)
    · have := h.prot k hk
      exact ⟨this.1, this.2.2 1 (by decide)⟩
    · have := h.prot k hk
      omega
theorem Cpn.grow2 {w w' : World} {lo : Nat} {c : Nat → Nat × Nat} {v0 v1 v2 v3 v4 v5 v6 v' : Value} {U : Rr} {L' : List Rm} (h : Cpn w lo c v0 v1 v2 v3 v4 v5 v6 U) (ht : Touch (c 2).1 (c 2).2 w w') (hlo : lo ≤ w.heap.size) {p : Nat × Nat} (hp : p = c 2 ∨ (w.heap.size ≤ p.1 ∧ p.2 ≤ w'.heap.size)) (hr : (∃ L, NGRow PM mxL 8 w' p.1 p.2 v' L ∧ L.map (·.1) = L')) : Cpn w' lo (upd c 2 p) v0 v1 v' v3 v4 v5 v6 { U with he := L' } := by
  have hsz := ht.size
  have hs2 := h.seg 2 (by decide)
  refine ⟨fun k hk => ?_, fun k j hk hj hne => ?_, h.o0.touch ht (h.ap 0 2 (by decide) (by decide) (by decide)), h.o1.touch ht (h.ap 1 2 (by decide) (by decide) (by decide)), hr, h.o3.touch ht (h.ap 3 2 (by decide) (by decide) (by decide)), h.o4.touch ht (h.ap 4 2 (by decide) (by decide) (by decide)), h.o5.touch ht (h.ap 5 2 (by decide) (by decide) (by decide)), (by obtain ⟨L6, h6, e6⟩ := h.o6; exact ⟨L6, h6.touch cloA ht (h.ap 6 2 (by decide) (by decide) (by decide)), e6⟩)⟩
  · by_cases e : k = 2
    · subst e
      rw [upd_same]
      rcases hp with rfl | hp <;> omega
    · rw [upd_ne _ _ e]
      have := h.seg k hk
      omega
  · by_cases e : k = 2
    · subst e
      rw [upd_same, upd_ne _ _ (Ne.symm hne)]
      have := h.seg j hj
      rcases hp with rfl | hp
      · exact h.ap _ j hk hj hne
      · omega
    · rw [upd_ne _ _ e]
      by_cases e' : j = 2
      · subst e'
        rw [upd_same]
        have := h.seg k hk
        rcases hp with rfl | hp
        · exact h.ap k _ hk hj hne
        · omega
      · rw [upd_ne _ _ e']
        exact h.ap k j hk hj hne
theorem Rw.part2 {K : Nat → Prop} {lo : Nat} {w w' : World} {γ : Nat} {b : Nat → Option Addr} {m : Nat → Nat} {c : Nat → Nat × Nat} {U : Rr} {L' : List Rm} {a' : Option Addr} {m' : Nat} (h : Rw K lo w γ b m c U) (ht : Touch (c 2).1 (c 2).2 w w') {p : Nat × Nat} (hp : p = c 2 ∨ (w.heap.size ≤ p.1 ∧ p.2 ≤ w'.heap.size)) (hr : (∃ L, NGRow PM mxL 8 w' p.1 p.2 (.slice a' L'.length m') L ∧ L.map (·.1) = L')) :
    Rw K lo (w'.setCell ⟨γ, 9, none⟩ (.slice a' L'.length m')) γ (upd b 2 a') (upd m 2 m') (upd c 2 p) { U with he := L' } ∧ Kept K w (w'.setCell ⟨γ, 9, none⟩ (.slice a' L'.length m')) := by
  have hsz := ht.size
  have ht2 : Touch γ (γ + 1) w' (w'.setCell ⟨γ, 9, none⟩ (.slice a' L'.length m')) := Touch.setCell _ _ _ _ _ ⟨Nat.le_refl _, Nat.lt_succ_self _⟩
  have hsz2 := ht2.size
  have hγ := h.box.lt
  have hfar : ∀ k, k < 7 → γ < (upd c 2 p k).1 ∨ (upd c 2 p k).2 ≤ γ := fun k hk => by
    by_cases e : k = 2
    · subst e
      rw [upd_same]
      rcases hp with rfl | hp
      · exact h.far _ hk
      · omega
    · rw [upd_ne _ _ e]
      exact h.far k hk
  refine ⟨⟨?_, ?_, by have := h.low; omega, hfar, fun k hk => ?_⟩, ?_⟩
  · have hb := (h.box.tch2 ht (h.far 2 (by decide))).set (k := 9) (.slice a' L'.length m') (by show 9 < 18; omega)
    exact hb
  · have hc := (Cpn.grow2 (v' := .slice a' L'.length m') h.cp ht h.low hp hr).touch ht2 (fun k hk => by have := hfar k hk; omega)
    exact hc
  · have := h.prot k hk
    refine ⟨by omega, this.2.1, fun j hj => ?_⟩
    by_cases e : j = 2
    · subst e
      rw [upd_same]
      rcases hp with rfl | hp
      · exact this.2.2 _ hj
      · omega
    · rw [upd_ne _ _ e]
      exact this.2.2 j hj
  · refine (Kept.touch ht fun k hk => ?_).trans (Kept.touch ht2 fun k hk => ?_)
    · have := h.prot k hk
      exact ⟨this.1, this.2.2 2 (by decide)⟩
    · have := h.prot k hk
      omega
theorem Cpn.grow3 {w w' : World} {lo : Nat} {c : Nat → Nat × Nat} {v0 v1 v2 v3 v4 v5 v6 v' : Value} {U : Rr} {L' : List ByteArray} (h : Cpn w lo c v0 v1 v2 v3 v4 v5 v6 U) (ht : Touch (c 3).1 (c 3).2 w w') (hlo : lo ≤ w.heap.size) {p : Nat × Nat} (hp : p = c 3 ∨ (w.heap.size ≤ p.1 ∧ p.2 ≤ w'.heap.size)) (hr : NRow tyL 1 w' p.1 p.2 v' L') : Cpn w' lo (upd c 3 p) v0 v1 v2 v' v4 v5 v6 { U with wi := L' } := by
  have hsz := ht.size
  have hs3 := h.seg 3 (by decide)
  refine ⟨fun k hk => ?_, fun k j hk hj hne => ?_, h.o0.touch ht (h.ap 0 3 (by decide) (by decide) (by decide)), h.o1.touch ht (h.ap 1 3 (by decide) (by decide) (by decide)), (by obtain ⟨L2, h2, e2⟩ := h.o2; exact ⟨L2, h2.touch cloM ht (h.ap 2 3 (by decide) (by decide) (by decide)), e2⟩), hr, h.o4.touch ht (h.ap 4 3 (by decide) (by decide) (by decide)), h.o5.touch ht (h.ap 5 3 (by decide) (by decide) (by decide)), (by obtain ⟨L6, h6, e6⟩ := h.o6; exact ⟨L6, h6.touch cloA ht (h.ap 6 3 (by decide) (by decide) (by decide)), e6⟩)⟩
  · by_cases e : k = 3
    · subst e
      rw [upd_same]
      rcases hp with rfl | hp <;> omega
    · rw [upd_ne _ _ e]
      have := h.seg k hk
      omega
  · by_cases e : k = 3
    · subst e
      rw [upd_same, upd_ne _ _ (Ne.symm hne)]
      have := h.seg j hj
      rcases hp with rfl | hp
      · exact h.ap _ j hk hj hne
      · omega
    · rw [upd_ne _ _ e]
      by_cases e' : j = 3
      · subst e'
        rw [upd_same]
        have := h.seg k hk
        rcases hp with rfl | hp
        · exact h.ap k _ hk hj hne
        · omega
      · rw [upd_ne _ _ e']
        exact h.ap k j hk hj hne
theorem Rw.part3 {K : Nat → Prop} {lo : Nat} {w w' : World} {γ : Nat} {b : Nat → Option Addr} {m : Nat → Nat} {c : Nat → Nat × Nat} {U : Rr} {L' : List ByteArray} {a' : Option Addr} {m' : Nat} (h : Rw K lo w γ b m c U) (ht : Touch (c 3).1 (c 3).2 w w') {p : Nat × Nat} (hp : p = c 3 ∨ (w.heap.size ≤ p.1 ∧ p.2 ≤ w'.heap.size)) (hr : NRow tyL 1 w' p.1 p.2 (.slice a' L'.length m') L') :
    Rw K lo (w'.setCell ⟨γ, 10, none⟩ (.slice a' L'.length m')) γ (upd b 3 a') (upd m 3 m') (upd c 3 p) { U with wi := L' } ∧ Kept K w (w'.setCell ⟨γ, 10, none⟩ (.slice a' L'.length m')) := by
  have hsz := ht.size
  have ht2 : Touch γ (γ + 1) w' (w'.setCell ⟨γ, 10, none⟩ (.slice a' L'.length m')) := Touch.setCell _ _ _ _ _ ⟨Nat.le_refl _, Nat.lt_succ_self _⟩
  have hsz2 := ht2.size
  have hγ := h.box.lt
  have hfar : ∀ k, k < 7 → γ < (upd c 3 p k).1 ∨ (upd c 3 p k).2 ≤ γ := fun k hk => by
    by_cases e : k = 3
    · subst e
      rw [upd_same]
      rcases hp with rfl | hp
      · exact h.far _ hk
      · omega
    · rw [upd_ne _ _ e]
      exact h.far k hk
  refine ⟨⟨?_, ?_, by have := h.low; omega, hfar, fun k hk => ?_⟩, ?_⟩
  · have hb := (h.box.tch2 ht (h.far 3 (by decide))).set (k := 10) (.slice a' L'.length m') (by show 10 < 18; omega)
    exact hb
  · have hc := (Cpn.grow3 (v' := .slice a' L'.length m') h.cp ht h.low hp hr).touch ht2 (fun k hk => by have := hfar k hk; omega)
    exact hc
  · have := h.prot k hk
    refine ⟨by omega, this.2.1, fun j hj => ?_⟩
    by_cases e : j = 3
    · subst e
      rw [upd_same]
      rcases hp with rfl | hp
      · exact this.2.2 _ hj
      · omega
    · rw [upd_ne _ _ e]
      exact this.2.2 j hj
  · refine (Kept.touch ht fun k hk => ?_).trans (Kept.touch ht2 fun k hk => ?_)
    · have := h.prot k hk
      exact ⟨this.1, this.2.2 3 (by decide)⟩
    · have := h.prot k hk
      omega
theorem Cpn.grow4 {w w' : World} {lo : Nat} {c : Nat → Nat × Nat} {v0 v1 v2 v3 v4 v5 v6 v' : Value} {U : Rr} {L' : List Int} (h : Cpn w lo c v0 v1 v2 v3 v4 v5 v6 U) (ht : Touch (c 4).1 (c 4).2 w w') (hlo : lo ≤ w.heap.size) {p : Nat × Nat} (hp : p = c 4 ∨ (w.heap.size ≤ p.1 ∧ p.2 ≤ w'.heap.size)) (hr : NRow inL 1 w' p.1 p.2 v' L') : Cpn w' lo (upd c 4 p) v0 v1 v2 v3 v' v5 v6 { U with ye := L' } := by
  have hsz := ht.size
  have hs4 := h.seg 4 (by decide)
  refine ⟨fun k hk => ?_, fun k j hk hj hne => ?_, h.o0.touch ht (h.ap 0 4 (by decide) (by decide) (by decide)), h.o1.touch ht (h.ap 1 4 (by decide) (by decide) (by decide)), (by obtain ⟨L2, h2, e2⟩ := h.o2; exact ⟨L2, h2.touch cloM ht (h.ap 2 4 (by decide) (by decide) (by decide)), e2⟩), h.o3.touch ht (h.ap 3 4 (by decide) (by decide) (by decide)), hr, h.o5.touch ht (h.ap 5 4 (by decide) (by decide) (by decide)), (by obtain ⟨L6, h6, e6⟩ := h.o6; exact ⟨L6, h6.touch cloA ht (h.ap 6 4 (by decide) (by decide) (by decide)), e6⟩)⟩
  · by_cases e : k = 4
    · subst e
      rw [upd_same]
      rcases hp with rfl | hp <;> omega
    · rw [upd_ne _ _ e]
      have := h.seg k hk
      omega
  · by_cases e : k = 4
    · subst e
      rw [upd_same, upd_ne _ _ (Ne.symm hne)]
      have := h.seg j hj
      rcases hp with rfl | hp
      · exact h.ap _ j hk hj hne
      · omega
    · rw [upd_ne _ _ e]
      by_cases e' : j = 4
      · subst e'
        rw [upd_same]
        have := h.seg k hk
        rcases hp with rfl | hp
        · exact h.ap k _ hk hj hne
        · omega
      · rw [upd_ne _ _ e']
        exact h.ap k j hk hj hne
theorem Rw.part4 {K : Nat → Prop} {lo : Nat} {w w' : World} {γ : Nat} {b : Nat → Option Addr} {m : Nat → Nat} {c : Nat → Nat × Nat} {U : Rr} {L' : List Int} {a' : Option Addr} {m' : Nat} (h : Rw K lo w γ b m c U) (ht : Touch (c 4).1 (c 4).2 w w') {p : Nat × Nat} (hp : p = c 4 ∨ (w.heap.size ≤ p.1 ∧ p.2 ≤ w'.heap.size)) (hr : NRow inL 1 w' p.1 p.2 (.slice a' L'.length m') L') :
    Rw K lo (w'.setCell ⟨γ, 14, none⟩ (.slice a' L'.length m')) γ (upd b 4 a') (upd m 4 m') (upd c 4 p) { U with ye := L' } ∧ Kept K w (w'.setCell ⟨γ, 14, none⟩ (.slice a' L'.length m')) := by
  have hsz := ht.size
  have ht2 : Touch γ (γ + 1) w' (w'.setCell ⟨γ, 14, none⟩ (.slice a' L'.length m')) := Touch.setCell _ _ _ _ _ ⟨Nat.le_refl _, Nat.lt_succ_self _⟩
  have hsz2 := ht2.size
  have hγ := h.box.lt
  have hfar : ∀ k, k < 7 → γ < (upd c 4 p k).1 ∨ (upd c 4 p k).2 ≤ γ := fun k hk => by
    by_cases e : k = 4
    · subst e
      rw [upd_same]
      rcases hp with rfl | hp
      · exact h.far _ hk
      · omega
    · rw [upd_ne _ _ e]
      exact h.far k hk
  refine ⟨⟨?_, ?_, by have := h.low; omega, hfar, fun k hk => ?_⟩, ?_⟩
  · have hb := (h.box.tch2 ht (h.far 4 (by decide))).set (k := 14) (.slice a' L'.length m') (by show 14 < 18; omega)
    exact hb
  · have hc := (Cpn.grow4 (v' := .slice a' L'.length m') h.cp ht h.low hp hr).touch ht2 (fun k hk => by have := hfar k hk; omega)
    exact hc
  · have := h.prot k hk
    refine ⟨by omega, this.2.1, fun j hj => ?_⟩
    by_cases e : j = 4
    · subst e
      rw [upd_same]
      rcases hp with rfl | hp
      · exact this.2.2 _ hj
      · omega
    · rw [upd_ne _ _ e]
      exact this.2.2 j hj
  · refine (Kept.touch ht fun k hk => ?_).trans (Kept.touch ht2 fun k hk => ?_)
    · have := h.prot k hk
      exact ⟨this.1, this.2.2 4 (by decide)⟩
    · have := h.prot k hk
      omega
theorem Cpn.grow5 {w w' : World} {lo : Nat} {c : Nat → Nat × Nat} {v0 v1 v2 v3 v4 v5 v6 v' : Value} {U : Rr} {L' : List Rs} (h : Cpn w lo c v0 v1 v2 v3 v4 v5 v6 U) (ht : Touch (c 5).1 (c 5).2 w w') (hlo : lo ≤ w.heap.size) {p : Nat × Nat} (hp : p = c 5 ∨ (w.heap.size ≤ p.1 ∧ p.2 ≤ w'.heap.size)) (hr : NRow rsL 2 w' p.1 p.2 v' L') : Cpn w' lo (upd c 5 p) v0 v1 v2 v3 v4 v' v6 { U with be := L' } := by
  have hsz := ht.size
  have hs5 := h.seg 5 (by decide)
  refine ⟨fun k hk => ?_, fun k j hk hj hne => ?_, h.o0.touch ht (h.ap 0 5 (by decide) (by decide) (by decide)), h.o1.touch ht (h.ap 1 5 (by decide) (by decide) (by decide)), (by obtain ⟨L2, h2, e2⟩ := h.o2; exact ⟨L2, h2.touch cloM ht (h.ap 2 5 (by decide) (by decide) (by decide)), e2⟩), h.o3.touch ht (h.ap 3 5 (by decide) (by decide) (by decide)), h.o4.touch ht (h.ap 4 5 (by decide) (by decide) (by decide)), hr, (by obtain ⟨L6, h6, e6⟩ := h.o6; exact ⟨L6, h6.touch cloA ht (h.ap 6 5 (by decide) (by decide) (by decide)), e6⟩)⟩
  · by_cases e : k = 5
    · subst e
      rw [upd_same]
      rcases hp with rfl | hp <;> omega
    · rw [upd_ne _ _ e]
      have := h.seg k hk
      omega
  · by_cases e : k = 5
    · subst e
      rw [upd_same, upd_ne _ _ (Ne.symm hne)]
      have := h.seg j hj
      rcases hp with rfl | hp
      · exact h.ap _ j hk hj hne
      · omega
    · rw [upd_ne _ _ e]
      by_cases e' : j = 5
      · subst e'
        rw [upd_same]
        have := h.seg k hk
        rcases hp with rfl | hp
        · exact h.ap k _ hk hj hne
        · omega
      · rw [upd_ne _ _ e']
        exact h.ap k j hk hj hne
theorem Rw.part5 {K : Nat → Prop} {lo : Nat} {w w' : World} {γ : Nat} {b : Nat → Option Addr} {m : Nat → Nat} {c : Nat → Nat × Nat} {U : Rr} {L' : List Rs} {a' : Option Addr} {m' : Nat} (h : Rw K lo w γ b m c U) (ht : Touch (c 5).1 (c 5).2 w w') {p : Nat × Nat} (hp : p = c 5 ∨ (w.heap.size ≤ p.1 ∧ p.2 ≤ w'.heap.size)) (hr : NRow rsL 2 w' p.1 p.2 (.slice a' L'.length m') L') :
    Rw K lo (w'.setCell ⟨γ, 15, none⟩ (.slice a' L'.length m')) γ (upd b 5 a') (upd m 5 m') (upd c 5 p) { U with be := L' } ∧ Kept K w (w'.setCell ⟨γ, 15, none⟩ (.slice a' L'.length m')) := by
  have hsz := ht.size
  have ht2 : Touch γ (γ + 1) w' (w'.setCell ⟨γ, 15, none⟩ (.slice a' L'.length m')) := Touch.setCell _ _ _ _ _ ⟨Nat.le_refl _, Nat.lt_succ_self _⟩
  have hsz2 := ht2.size
  have hγ := h.box.lt
  have hfar : ∀ k, k < 7 → γ < (upd c 5 p k).1 ∨ (upd c 5 p k).2 ≤ γ := fun k hk => by
    by_cases e : k = 5
    · subst e
      rw [upd_same]
      rcases hp with rfl | hp
      · exact h.far _ hk
      · omega
    · rw [upd_ne _ _ e]
      exact h.far k hk
  refine ⟨⟨?_, ?_, by have := h.low; omega, hfar, fun k hk => ?_⟩, ?_⟩
  · have hb := (h.box.tch2 ht (h.far 5 (by decide))).set (k := 15) (.slice a' L'.length m') (by show 15 < 18; omega)
    exact hb
  · have hc := (Cpn.grow5 (v' := .slice a' L'.length m') h.cp ht h.low hp hr).touch ht2 (fun k hk => by have := hfar k hk; omega)
    exact hc
  · have := h.prot k hk
    refine ⟨by omega, this.2.1, fun j hj => ?_⟩
    by_cases e : j = 5
    · subst e
      rw [upd_same]
      rcases hp with rfl | hp
      · exact this.2.2 _ hj
      · omega
    · rw [upd_ne _ _ e]
      exact this.2.2 j hj
  · refine (Kept.touch ht fun k hk => ?_).trans (Kept.touch ht2 fun k hk => ?_)
    · have := h.prot k hk
      exact ⟨this.1, this.2.2 5 (by decide)⟩
    · have := h.prot k hk
      omega
theorem Cpn.grow6 {w w' : World} {lo : Nat} {c : Nat → Nat × Nat} {v0 v1 v2 v3 v4 v5 v6 v' : Value} {U : Rr} {L' : List Ra} (h : Cpn w lo c v0 v1 v2 v3 v4 v5 v6 U) (ht : Touch (c 6).1 (c 6).2 w w') (hlo : lo ≤ w.heap.size) {p : Nat × Nat} (hp : p = c 6 ∨ (w.heap.size ≤ p.1 ∧ p.2 ≤ w'.heap.size)) (hr : (∃ L, NGRow PA axL 2 w' p.1 p.2 v' L ∧ L.map (·.1) = L')) : Cpn w' lo (upd c 6 p) v0 v1 v2 v3 v4 v5 v' { U with ac := L' } := by
  have hsz := ht.size
  have hs6 := h.seg 6 (by decide)
  refine ⟨fun k hk => ?_, fun k j hk hj hne => ?_, h.o0.touch ht (h.ap 0 6 (by decide) (by decide) (by decide)), h.o1.touch ht (h.ap 1 6 (by decide) (by decide) (by decide)), (by obtain ⟨L2, h2, e2⟩ := h.o2; exact ⟨L2, h2.touch cloM ht (h.ap 2 6 (by decide) (by decide) (by decide)), e2⟩), h.o3.touch ht (h.ap 3 6 (by decide) (by decide) (by decide)), h.o4.touch ht (h.ap 4 6 (by decide) (by decide) (by decide)), h.o5.touch ht (h.ap 5 6 (by decide) (by decide) (by decide)), hr⟩
  · by_cases e : k = 6
    · subst e
      rw [upd_same]
      rcases hp with rfl | hp <;> omega
    · rw [upd_ne _ _ e]
      have := h.seg k hk
      omega
  · by_cases e : k = 6
    · subst e
      rw [upd_same, upd_ne _ _ (Ne.symm hne)]
      have := h.seg j hj
      rcases hp with rfl | hp
      · exact h.ap _ j hk hj hne
      · omega
    · rw [upd_ne _ _ e]
      by_cases e' : j = 6
      · subst e'
        rw [upd_same]
        have := h.seg k hk
        rcases hp with rfl | hp
        · exact h.ap k _ hk hj hne
        · omega
      · rw [upd_ne _ _ e']
        exact h.ap k j hk hj hne
theorem Rw.part6 {K : Nat → Prop} {lo : Nat} {w w' : World} {γ : Nat} {b : Nat → Option Addr} {m : Nat → Nat} {c : Nat → Nat × Nat} {U : Rr} {L' : List Ra} {a' : Option Addr} {m' : Nat} (h : Rw K lo w γ b m c U) (ht : Touch (c 6).1 (c 6).2 w w') {p : Nat × Nat} (hp : p = c 6 ∨ (w.heap.size ≤ p.1 ∧ p.2 ≤ w'.heap.size)) (hr : (∃ L, NGRow PA axL 2 w' p.1 p.2 (.slice a' L'.length m') L ∧ L.map (·.1) = L')) :
    Rw K lo (w'.setCell ⟨γ, 16, none⟩ (.slice a' L'.length m')) γ (upd b 6 a') (upd m 6 m') (upd c 6 p) { U with ac := L' } ∧ Kept K w (w'.setCell ⟨γ, 16, none⟩ (.slice a' L'.length m')) := by
  have hsz := ht.size
  have ht2 : Touch γ (γ + 1) w' (w'.setCell ⟨γ, 16, none⟩ (.slice a' L'.length m')) := Touch.setCell _ _ _ _ _ ⟨Nat.le_refl _, Nat.lt_succ_self _⟩
  have hsz2 := ht2.size
  have hγ := h.box.lt
  have hfar : ∀ k, k < 7 → γ < (upd c 6 p k).1 ∨ (upd c 6 p k).2 ≤ γ := fun k hk => by
    by_cases e : k = 6
    · subst e
      rw [upd_same]
      rcases hp with rfl | hp
      · exact h.far _ hk
      · omega
    · rw [upd_ne _ _ e]
      exact h.far k hk
  refine ⟨⟨?_, ?_, by have := h.low; omega, hfar, fun k hk => ?_⟩, ?_⟩
  · have hb := (h.box.tch2 ht (h.far 6 (by decide))).set (k := 16) (.slice a' L'.length m') (by show 16 < 18; omega)
    exact hb
  · have hc := (Cpn.grow6 (v' := .slice a' L'.length m') h.cp ht h.low hp hr).touch ht2 (fun k hk => by have := hfar k hk; omega)
    exact hc
  · have := h.prot k hk
    refine ⟨by omega, this.2.1, fun j hj => ?_⟩
    by_cases e : j = 6
    · subst e
      rw [upd_same]
      rcases hp with rfl | hp
      · exact this.2.2 _ hj
      · omega
    · rw [upd_ne _ _ e]
      exact this.2.2 j hj
  · refine (Kept.touch ht fun k hk => ?_).trans (Kept.touch ht2 fun k hk => ?_)
    · have := h.prot k hk
      exact ⟨this.1, this.2.2 6 (by decide)⟩
    · have := h.prot k hk
      omega
end Go.Proofs.YtfbfgljkiikabaaGreat
namespace Go.Proofs.YtfbfgljkiikabaaGreat
open Go.RowKit Go.Deep

theorem szN {cs : List Value} (h : cs.length = 18) : (Tryz.prog.info? 41).map (·.size) = some cs.toArray.size := by rw [show cs.toArray.size = 18 from h]; exact sizeRr
def specW (U : Rr) (tx : ByteArray) : Rr := if validR U then (if U.up then wishU U tx else U) else nwU 0 0 false
theorem wish_small {U : Rr} (h : RrSmall U) (tx : ByteArray) : RrSmall (wishU U tx) := by
  unfold wishU
  split
  · rename_i hw
    obtain ⟨h0, h1, h2, h3, h4, h5, h6⟩ := h
    refine ⟨h0, h1, h2, ?_, h4, h5, h6⟩
    unfold wishOkB at hw
    simp only [Bool.and_eq_true, Bool.not_eq_true', decide_eq_false_iff_not] at hw
    unfold RtsSmall at h3 ⊢
    simp only [List.length_append, List.length_cons, List.length_nil]
    omega
  · exact h
theorem nw_small (n of : Int) (up : Bool) : RrSmall (nwU n of up) := by
  unfold RrSmall RdSmall RssSmall RmsSmall RtsSmall RisSmall RasSmall nwU
  simp
theorem specW_small {U : Rr} (h : RrSmall U) (tx : ByteArray) : RrSmall (specW U tx) := by
  unfold specW
  split
  · split
    · exact wish_small h tx
    · exact h
  · exact nw_small _ _ _
theorem valid_kn {U : Rr} (h : validR U = true) : 0 ≤ U.dk.kn ∧ U.dk.kn ≤ (U.dk.sl.length : Int) := by
  unfold validR at h
  simp only [Bool.and_eq_true] at h
  have h2 := h.2.2.2.1
  unfold diskB at h2
  simp only [Bool.and_eq_true] at h2
  have h3 := h2.2.2.1
  unfold inB at h3
  simpa using h3
theorem nwL_len (n of : Int) (up : Bool) : (nwL n of up).length = 18 := rfl
theorem rrL_len (U : Rr) (a0 : Option Addr) (k0 : Nat) ( a1 : Option Addr) (k1 : Nat) ( a2 : Option Addr) (k2 : Nat) ( a3 : Option Addr) (k3 : Nat) ( a4 : Option Addr) (k4 : Nat) ( a5 : Option Addr) (k5 : Nat) (a6 : Option Addr) (k6 : Nat) : (rrL U a0 k0 a1 k1 a2 k2 a3 k3 a4 k4 a5 k5 a6 k6).length = 18 := rfl
theorem rrL_one (U : Rr) (a0 : Option Addr) (k0 : Nat) ( a1 : Option Addr) (k1 : Nat) ( a2 : Option Addr) (k2 : Nat) ( a3 : Option Addr) (k3 : Nat) ( a4 : Option Addr) (k4 : Nat) ( a5 : Option Addr) (k5 : Nat) (a6 : Option Addr) (k6 : Nat) : (rrL U a0 k0 a1 k1 a2 k2 a3 k3 a4 k4 a5 k5 a6 k6).toArray.all (·.oneCell') = true := by simp [rrL, Value.oneCell']
theorem nwL_one (n of : Int) (up : Bool) : (nwL n of up).toArray.all (·.oneCell') = true := by simp [nwL, Value.oneCell']

theorem Touch.belowB {lo hi : Nat} {w w' : World} (h : Touch lo hi w w') {p : Addr} (hp : p.block < w.heap.size) (ho : hi ≤ p.block) : w'.cell? p = w.cell? p := h.cell hp (Or.inr ho)
theorem RssAt.tup {lo l u : Nat} {w w' : World} {v : Value} {L : List Rs} (h : RssAt lo w v L) (ht : Touch l u w w') (hu : u ≤ lo) : RssAt lo w' v L := by
  rcases h with h | ⟨b, off, cap, h1, h2, h3, h4, h5, h6, h7⟩
  · exact Or.inl h
  · refine Or.inr ⟨b, off, cap, h1, h2, h3, Nat.lt_of_lt_of_le h4 ht.size, h5, h6, fun i hi => ?_⟩
    obtain ⟨hs, hc⟩ := h7 i hi
    exact ⟨hs, ⟨(ht.belowB (p := ⟨b, _, none⟩) h4 (Nat.le_trans hu h5)).trans hc.c0, (ht.belowB (p := ⟨b, _, none⟩) h4 (Nat.le_trans hu h5)).trans hc.c1⟩⟩
theorem RisAt.tup {lo l u : Nat} {w w' : World} {v : Value} {L : List Int} (h : RisAt lo w v L) (ht : Touch l u w w') (hu : u ≤ lo) : RisAt lo w' v L := by
  rcases h with h | ⟨b, off, cap, h1, h2, h3, h4, h5, h6, h7⟩
  · exact Or.inl h
  · exact Or.inr ⟨b, off, cap, h1, h2, h3, Nat.lt_of_lt_of_le h4 ht.size, h5, h6, fun i hi => ⟨(h7 i hi).1, (ht.belowB (p := ⟨b, _, none⟩) h4 (Nat.le_trans hu h5)).trans (h7 i hi).2⟩⟩
theorem RtsAt.tup {lo l u : Nat} {w w' : World} {v : Value} {L : List ByteArray} (h : RtsAt lo w v L) (ht : Touch l u w w') (hu : u ≤ lo) : RtsAt lo w' v L := by
  rcases h with h | ⟨b, off, cap, h1, h2, h3, h4, h5, h6, h7⟩
  · exact Or.inl h
  · exact Or.inr ⟨b, off, cap, h1, h2, h3, Nat.lt_of_lt_of_le h4 ht.size, h5, h6, fun i hi => ⟨(h7 i hi).1, (ht.belowB (p := ⟨b, _, none⟩) h4 (Nat.le_trans hu h5)).trans (h7 i hi).2⟩⟩
theorem rng_tup {l u b o : Nat} {w w' : World} {cs : List Value} (h : w.rangeAt b o cs) (ht : Touch l u w w') (hb : b < w.heap.size) (hu : u ≤ b) : w'.rangeAt b o cs := fun j v hv => (ht.belowB (p := ⟨b, o + j, none⟩) hb hu).trans (h j v hv)
theorem RmsAt.tup {lo l u : Nat} {w w' : World} {v : Value} {L : List Rm} (h : RmsAt lo w v L) (ht : Touch l u w w') (hu : u ≤ lo) : RmsAt lo w' v L := by
  rcases h with h | ⟨b, off, cap, h1, h2, h3, h4, h5, h6, h7⟩
  · exact Or.inl h
  · refine Or.inr ⟨b, off, cap, h1, h2, h3, Nat.lt_of_lt_of_le h4 ht.size, h5, h6, fun i hi => ?_⟩
    obtain ⟨cs, hr, a0, k0, e, hf⟩ := h7 i hi
    exact ⟨cs, rng_tup hr ht h4 (Nat.le_trans hu h5), a0, k0, e, ⟨hf.l0.tup ht hu, hf.s0⟩⟩
theorem RasAt.tup {lo l u : Nat} {w w' : World} {v : Value} {L : List Ra} (h : RasAt lo w v L) (ht : Touch l u w w') (hu : u ≤ lo) : RasAt lo w' v L := by
  rcases h with h | ⟨b, off, cap, h1, h2, h3, h4, h5, h6, h7⟩
  · exact Or.inl h
  · refine Or.inr ⟨b, off, cap, h1, h2, h3, Nat.lt_of_lt_of_le h4 ht.size, h5, h6, fun i hi => ?_⟩
    obtain ⟨cs, hr, a0, k0, e, hf⟩ := h7 i hi
    exact ⟨cs, rng_tup hr ht h4 (Nat.le_trans hu h5), a0, k0, e, ⟨hf.l0.tup ht hu⟩⟩
theorem RrAt.touchUp {lo l u : Nat} {w w' : World} {v0 v1 v2 v3 v4 v5 v6 : Value} {U : Rr} (h : RrAt lo w v0 v1 v2 v3 v4 v5 v6 U) (ht : Touch l u w w') (hu : u ≤ lo) : RrAt lo w' v0 v1 v2 v3 v4 v5 v6 U :=
  ⟨h.l0.tup ht hu, h.l1.tup ht hu, h.l2.tup ht hu, h.l3.tup ht hu, h.l4.tup ht hu, h.l5.tup ht hu, h.l6.tup ht hu⟩


set_option maxRecDepth 20000 in
set_option maxHeartbeats 16000000 in
theorem specWish_any (cs : List Value) (U : Rr) (tx : ByteArray) (w : World) (h : RrC 0 w cs U) (hn : RrSmall U) (htx : tx.size ≤ 1048576) :
    Calls Tryz.prog 17 #[.agg cs.toArray, .string tx] w fun e w' => ∃ cs', e = .returned (.agg cs'.toArray) ∧ Below w.heap.size w w' ∧ RrC 0 w' cs' (specW U tx) := by
  have HC := hide h
  have HN := hide hn
  have HZ := hide h.sizes
  have HTX : Hid (tx.size ≤ maxLen) := by unfold Hid maxLen; omega
  have HS : Hid ((Tryz.prog.info? 41).map (·.size) = some cs.length) := by unfold Hid; rw [h.len]; exact sizeRr
  have hup := (rr_at h).2.2.1
  have HUP := hide hup
  have HE : Hid (specW U tx = if validR U then (if U.up then wishU U tx else U) else nwU 0 0 false) := rfl
  clear h hn hup
  have HR0 : Hid (World.rangeAt ((w.alloc (.cells cs.toArray 41)).alloc (.cells #[.int .i64 0, .int .i64 0, .bool false, .int .i64 0, .int .i64 0, .slice none 0 0, .int .i64 0, .int .i64 0, .slice none 0 0, .slice none 0 0, .slice none 0 0, .bool false, .bool false, .int .i64 0, .slice none 0 0, .slice none 0 0, .slice none 0 0, .int .i64 0] 41)) w.heap.size 0 cs) := ((Box.new w _ _ _ rfl).on (one_al _ _)).range rfl
  go_enter Tryz.func17, Tryz.ntmps17
  go_wp2_with (with_reducible refine wpList_load_mid (by with_reducible rfl) 41 (.tmp 2) (by with_reducible rfl) w.heap.size 0 (by with_unfolding_all rfl) cs _ HR0.out Tryz.underlying41 (by with_unfolding_all rfl) HS.out ?_)
  obtain ⟨wz, hwz, FB, RB, HB⟩ : ∃ wz, wz = (w.alloc (.cells cs.toArray 41)).alloc (.cells #[.int .i64 0, .int .i64 0, .bool false, .int .i64 0, .int .i64 0, .slice none 0 0, .int .i64 0, .int .i64 0, .slice none 0 0, .slice none 0 0, .slice none 0 0, .bool false, .bool false, .int .i64 0, .slice none 0 0, .slice none 0 0, .slice none 0 0, .int .i64 0] 41) ∧ Hid (Box wz w.heap.size cs.toArray) ∧ Hid (Box wz (w.heap.size + 1) #[.int .i64 0, .int .i64 0, .bool false, .int .i64 0, .int .i64 0, .slice none 0 0, .int .i64 0, .int .i64 0, .slice none 0 0, .slice none 0 0, .slice none 0 0, .bool false, .bool false, .int .i64 0, .slice none 0 0, .slice none 0 0, .slice none 0 0, .int .i64 0]) ∧ Hid (Below w.heap.size w wz) :=
    ⟨_, rfl, (Box.new w _ _ _ rfl).on (one_al _ _), Box.new _ _ _ _ (by simp), (one_al _ _).trans ((one_al _ _).mono (by simp))⟩
  rw [← hwz]
  clear hwz HR0
  refine (specValidR_any 0 cs U _ (HC.out.below HB.out) HN.out).mono ?_
  rintro e w1 ⟨rfl, hb⟩
  replace HB : Hid (Below w.heap.size w w1) := bt HB.out hb
  replace FB := hide (FB.out.on hb)
  replace RB := hide (RB.out.on hb)
  clear hb
  cases qv : validR U with
  | false =>
    have HV : Hid (specW U tx = nwU 0 0 false) := by unfold Hid; rw [HE.out, qv]; rfl
    obtain ⟨zl, hzl⟩ : ∃ zl, zl = nwL 0 0 false := ⟨_, rfl⟩
    have hz18 : zl.length = 18 := by rw [hzl]; rfl
    have HON : Hid (zl.toArray.all (·.oneCell') = true) := by unfold Hid; rw [hzl]; exact nwL_one _ _ _
    have HZL := hide hzl
    have hzb : ∀ u, Sem.run Tryz.prog (zeroValue 41) u = .ok (.agg zl.toArray) u := by rw [hzl]; intro u; kernel_rfl
    clear hzl
    have HTH : Hid (World.there w1 (w.heap.size + 1) 0 zl.toArray.size) := by unfold Hid; rw [show zl.toArray.size = 18 from hz18]; exact RB.out.there rfl
    go_wp2_with (with_reducible refine wpList_store_mid (by with_reducible rfl) 41 (.tmp 4) (.tmp 8) (by with_reducible rfl) (w.heap.size + 1) 0 zl.toArray (by with_unfolding_all rfl) (by with_unfolding_all rfl) HTH.out (szN hz18) HON.out ?_; refine Hid.out ?_)
    generalize hW : World.setCells _ _ _ _ = W9
    have FR9 : Hid (Box W9 (w.heap.size + 1) zl.toArray) := by unfold Hid; rw [← hW]; exact RB.out.full (by rw [show zl.toArray.size = 18 from hz18]; rfl)
    have TT : Hid (Touch (w.heap.size + 1) (w.heap.size + 2) w1 W9) := by unfold Hid; rw [← hW]; exact Touch.sets ⟨by omega, by omega⟩ _ _ _
    have HB9 : Hid (Below w.heap.size w W9) := HB.out.trans ((TT.out.under (by have := RB.out.lt; omega)).mono (by omega))
    clear hW
    refine hide ?_
    go_wp2
    exact bodyPost_ret (v := .agg zl.toArray) (res_rr (p := 4) (ty := 41) Tryz.results17 _ _ (w.heap.size + 1) 0 zl _ rfl (FR9.out.range rfl) Tryz.underlying41 rfl (by rw [hz18]; exact sizeRr)) rfl ⟨zl, rfl, HB9.out, by rw [HV.out, HZL.out]; exact nw_c _ _ _ _⟩
  | true =>
  cases qu : U.up with
  | false =>
    have HV : Hid (specW U tx = U) := by unfold Hid; rw [HE.out, qv, qu]; rfl
    have g2 : w1.cell? ⟨w.heap.size, 2, none⟩ = some (.bool false) := by rw [FB.out.cell 2, List.getElem?_toArray, HUP.out, qu]
    have HRA := hide (FB.out.range (l := cs) rfl)
    go_wp2_with (with_reducible refine wpList_load_mid (by with_reducible rfl) 41 (.tmp 2) (by with_reducible rfl) w.heap.size 0 (by with_unfolding_all rfl) cs _ HRA.out Tryz.underlying41 (by with_unfolding_all rfl) HS.out ?_)
    clear g2 HRA
    refine (copyR_any 0 cs U _ (HC.out.below HB.out) HN.out).mono ?_
    rintro e w2 ⟨b0, m0, b1, m1, b2, m2, b3, m3, b4, m4, b5, m5, b6, m6, c, rfl, hb, hcp⟩
    have hsz : w.heap.size + 2 ≤ w1.heap.size := by have := RB.out.lt; omega
    replace HB : Hid (Below w.heap.size w w2) := bt HB.out hb
    replace RB := hide (RB.out.on hb)
    have HCP := hide (hcp.at HZ.out)
    clear hb hcp
    obtain ⟨yl, hyl⟩ : ∃ yl, yl = rrL U b0 m0 b1 m1 b2 m2 b3 m3 b4 m4 b5 m5 b6 m6 := ⟨_, rfl⟩
    rw [← hyl]
    have hy18 : yl.length = 18 := by rw [hyl]; rfl
    have HON : Hid (yl.toArray.all (·.oneCell') = true) := by unfold Hid; rw [hyl]; exact rrL_one _ _ _ _ _ _ _ _ _ _ _ _ _ _ _
    have HYL := hide hyl
    clear hyl
    have HTH : Hid (World.there w2 (w.heap.size + 1) 0 yl.toArray.size) := by unfold Hid; rw [show yl.toArray.size = 18 from hy18]; exact RB.out.there rfl
    go_wp2_with (with_reducible refine wpList_store_mid (by with_reducible rfl) 41 (.tmp 4) (.tmp 13) (by with_reducible rfl) (w.heap.size + 1) 0 yl.toArray (by with_unfolding_all rfl) (by with_unfolding_all rfl) HTH.out (szN hy18) HON.out ?_; refine Hid.out ?_)
    generalize hW : World.setCells _ _ _ _ = W9
    have FR9 : Hid (Box W9 (w.heap.size + 1) yl.toArray) := by unfold Hid; rw [← hW]; exact RB.out.full (by rw [show yl.toArray.size = 18 from hy18]; rfl)
    have TT : Hid (Touch (w.heap.size + 1) (w.heap.size + 2) w2 W9) := by unfold Hid; rw [← hW]; exact Touch.sets ⟨by omega, by omega⟩ _ _ _
    have HB9 : Hid (Below w.heap.size w W9) := HB.out.trans ((TT.out.under (by have := RB.out.lt; omega)).mono (by omega))
    clear hW
    refine hide ?_
    go_wp2
    exact bodyPost_ret (v := .agg yl.toArray) (res_rr (p := 4) (ty := 41) Tryz.results17 _ _ (w.heap.size + 1) 0 yl _ rfl (FR9.out.range rfl) Tryz.underlying41 rfl (by rw [hy18]; exact sizeRr)) rfl ⟨yl, rfl, HB9.out, by
          rw [HV.out, HYL.out]
          exact ⟨b0, m0, b1, m1, b2, m2, b3, m3, b4, m4, b5, m5, b6, m6, rfl, (RrAt.touchUp HCP.out TT.out (by omega)).mono (Nat.zero_le _)⟩⟩
  | true =>
    have HV : Hid (specW U tx = wishU U tx) := by unfold Hid; rw [HE.out, qv, qu]; rfl
    have HKN := hide (valid_kn qv)
    have g2 : w1.cell? ⟨w.heap.size, 2, none⟩ = some (.bool true) := by rw [FB.out.cell 2, List.getElem?_toArray, HUP.out, qu]
    have HRA := hide (FB.out.range (l := cs) rfl)
    go_wp2_with (with_reducible refine wpList_load_mid (by with_reducible rfl) 41 (.tmp 2) (by with_reducible rfl) w.heap.size 0 (by with_unfolding_all rfl) cs _ HRA.out Tryz.underlying41 (by with_unfolding_all rfl) HS.out ?_)
    clear g2 HRA
    have hsz : w.heap.size + 2 ≤ w1.heap.size := by have := RB.out.lt; omega
    refine (copyR_any 0 cs U _ (HC.out.below HB.out) HN.out).mono ?_
    rintro e w2 ⟨b0, m0, b1, m1, b2, m2, b3, m3, b4, m4, b5, m5, b6, m6, c, rfl, hb, hcp⟩
    have hs2 : w1.heap.size ≤ w2.heap.size := hb.size
    replace HB : Hid (Below w.heap.size w w2) := bt HB.out hb
    replace RB := hide (RB.out.on hb)
    have HCP := hide hcp
    clear hb hcp
    go_wp2_with fail
    refine (wishX_any w1.heap.size U tx b0 m0 b1 m1 b2 m2 b3 m3 b4 m4 b5 m5 b6 m6 c _ HCP.out HZ.out HKN.out HTX.out hs2 (by have := HN.out.2.2.2.1; unfold RtsSmall at this; exact this)).mono ?_
    rintro e w3 ⟨xs, rfl, hb, hrc⟩
    have hs3 : w2.heap.size ≤ w3.heap.size := hb.size
    replace HB : Hid (Below w.heap.size w w3) := HB.out.trans (hb.mono (by omega))
    replace RB := hide (RB.out.below hb (by omega))
    have HRC := hide hrc
    clear hb hrc
    go_wp2_with fail
    refine (copyR_any w1.heap.size xs (wishU U tx) _ HRC.out (wish_small HN.out tx)).mono ?_
    rintro e w4 ⟨d0, n0, d1, n1, d2, n2, d3, n3, d4, n4, d5, n5, d6, n6, c', rfl, hb, hcp⟩
    replace HB : Hid (Below w.heap.size w w4) := bt HB.out hb
    replace RB := hide (RB.out.on hb)
    have HCQ := hide (hcp.at HRC.out.sizes)
    clear hb hcp
    obtain ⟨yl, hyl⟩ : ∃ yl, yl = rrL (wishU U tx) d0 n0 d1 n1 d2 n2 d3 n3 d4 n4 d5 n5 d6 n6 := ⟨_, rfl⟩
    rw [← hyl]
    have hy18 : yl.length = 18 := by rw [hyl]; rfl
    have HON : Hid (yl.toArray.all (·.oneCell') = true) := by unfold Hid; rw [hyl]; exact rrL_one _ _ _ _ _ _ _ _ _ _ _ _ _ _ _
    have HYL := hide hyl
    clear hyl
    have HTH : Hid (World.there w4 (w.heap.size + 1) 0 yl.toArray.size) := by unfold Hid; rw [show yl.toArray.size = 18 from hy18]; exact RB.out.there rfl
    go_wp2_with (with_reducible refine wpList_store_mid (by with_reducible rfl) 41 (.tmp 4) (.tmp 18) (by with_reducible rfl) (w.heap.size + 1) 0 yl.toArray (by with_unfolding_all rfl) (by with_unfolding_all rfl) HTH.out (szN hy18) HON.out ?_; refine Hid.out ?_)
    generalize hW : World.setCells _ _ _ _ = W9
    have FR9 : Hid (Box W9 (w.heap.size + 1) yl.toArray) := by unfold Hid; rw [← hW]; exact RB.out.full (by rw [show yl.toArray.size = 18 from hy18]; rfl)
    have TT : Hid (Touch (w.heap.size + 1) (w.heap.size + 2) w4 W9) := by unfold Hid; rw [← hW]; exact Touch.sets ⟨by omega, by omega⟩ _ _ _
    have HB9 : Hid (Below w.heap.size w W9) := HB.out.trans ((TT.out.under (by have := RB.out.lt; omega)).mono (by omega))
    clear hW
    refine hide ?_
    go_wp2
    exact bodyPost_ret (v := .agg yl.toArray) (res_rr (p := 4) (ty := 41) Tryz.results17 _ _ (w.heap.size + 1) 0 yl _ rfl (FR9.out.range rfl) Tryz.underlying41 rfl (by rw [hy18]; exact sizeRr)) rfl ⟨yl, rfl, HB9.out, by
          rw [HV.out, HYL.out]
          exact ⟨d0, n0, d1, n1, d2, n2, d3, n3, d4, n4, d5, n5, d6, n6, rfl, (RrAt.touchUp HCQ.out TT.out (by omega)).mono (Nat.zero_le _)⟩⟩
end Go.Proofs.YtfbfgljkiikabaaGreat
