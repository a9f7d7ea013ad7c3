import Derived.Test.YtoklnkojacdciaaM10
import Derived.Test.YtoklnkojacdciaaM49
namespace Go.Proofs.Ytoklnkojacdciaa
open Go.ChangeShapes Go.WideShapes Go.ChangeAt Go.RowKit Go.Deep
theorem Try.cells48 : Try.prog.cellsOf 48 = 1 := by kernel_rfl
section
variable {H : Type} {enc : TypeId × Value → H} {W : World}
set_option maxRecDepth 100000 in
theorem open_Ris {fuel : Nat} {c : Value} {x : DataW H × List MemPlace} (h : DataW.trod enc Try.prog W 0 (fun _ => true) true fuel 48 [c] = some x) : ∃ Xl, RisAt 0 W c Xl := by
  rcases open_slice Try.underlying48 h with ⟨hcs, _⟩ | ⟨a, len, cap, m, n, D, Pl, hcs, _, hl, hm, hmm, _, hx⟩
  · simp only [List.cons.injEq, and_true] at hcs
    exact ⟨[], Or.inl ⟨_, _, hcs, rfl⟩⟩
  · simp only [List.cons.injEq, and_true] at hcs
    simp only [if_true] at hmm
    subst hmm
    rw [Try.cells3] at hx
    by_cases h0 : len = 0
    · subst h0
      exact ⟨[], Or.inl ⟨_, _, hcs, rfl⟩⟩
    · obtain ⟨Xl, hF, hall⟩ := choose_list (p := fun i (x : Int) => RiSize x ∧ W.cells? 0 (a.add (i * 1)) 1 = some [.int .i64 x]) len (fun i hi => by
        obtain ⟨cs', h1, h2⟩ := hx i (by omega)
        obtain ⟨q1, e1, _, s1⟩ := DataW.trod_int Try.underlying3 h2
        rw [e1] at h1
        exact ⟨q1, rfl, h1⟩)
      obtain ⟨b, off, spot⟩ := a
      have hspot : spot = none := by
        obtain ⟨_, h1⟩ := hall 0 (by omega)
        have := (World.cells?_some h1).2.2 0 (by omega)
        rw [Nat.zero_mul] at this
        have e0 : ((⟨b, off, spot⟩ : Addr).add 0).add 0 = ⟨b, off, spot⟩ := by simp [Addr.add]
        rw [e0] at this
        simpa using World.cell?_spot (by simpa using this)
      subst hspot
      have hcell : ∀ i (hi : i < Xl.length), W.cells? 0 ((⟨b, off, none⟩ : Addr).add (i * 1)) 1 = some [.int .i64 Xl[i]] → W.cell? ⟨b, off + i, none⟩ = some (.int .i64 Xl[i]) := fun i hi h1 => by
        obtain ⟨_, _, hc⟩ := World.cells?_some h1
        rw [add_plain, Nat.mul_one] at hc
        have q := (add_plain b (off + i) 0) ▸ hc 0 (by omega)
        simpa using q
      have hbw : b < W.heap.size := by
        obtain ⟨_, h1⟩ := hall 0 (by omega)
        exact World.block_lt_of_cell? W _ (hcell 0 (by omega) h1)
      refine ⟨Xl, Or.inr ⟨b, off, m, by rw [hcs, hF], ?_, by omega, hbw, Nat.zero_le _, by omega, fun i hi => ?_⟩⟩
      · intro e; rw [e] at hF; simp at hF; omega
      · obtain ⟨hz, h1⟩ := hall i hi
        exact ⟨hz, hcell i hi h1⟩
end
theorem Try.cells47 : Try.prog.cellsOf 47 = 1 := by kernel_rfl
section
variable {H : Type} {enc : TypeId × Value → H} {W : World}
set_option maxRecDepth 100000 in
theorem open_Rts {fuel : Nat} {c : Value} {x : DataW H × List MemPlace} (h : DataW.trod enc Try.prog W 0 (fun _ => true) true fuel 47 [c] = some x) : ∃ Xl, RtsAt 0 W c Xl := by
  rcases open_slice Try.underlying47 h with ⟨hcs, _⟩ | ⟨a, len, cap, m, n, D, Pl, hcs, _, hl, hm, hmm, _, hx⟩
  · simp only [List.cons.injEq, and_true] at hcs
    exact ⟨[], Or.inl ⟨_, _, hcs, rfl⟩⟩
  · simp only [List.cons.injEq, and_true] at hcs
    simp only [if_true] at hmm
    subst hmm
    rw [Try.cells9] at hx
    by_cases h0 : len = 0
    · subst h0
      exact ⟨[], Or.inl ⟨_, _, hcs, rfl⟩⟩
    · obtain ⟨Xl, hF, hall⟩ := choose_list (p := fun i (x : ByteArray) => RtSize x ∧ W.cells? 0 (a.add (i * 1)) 1 = some [.string x]) len (fun i hi => by
        obtain ⟨cs', h1, h2⟩ := hx i (by omega)
        obtain ⟨q1, e1, _, s1⟩ := DataW.trod_string Try.underlying9 h2
        rw [e1] at h1
        exact ⟨q1, s1, h1⟩)
      obtain ⟨b, off, spot⟩ := a
      have hspot : spot = none := by
        obtain ⟨_, h1⟩ := hall 0 (by omega)
        have := (World.cells?_some h1).2.2 0 (by omega)
        rw [Nat.zero_mul] at this
        have e0 : ((⟨b, off, spot⟩ : Addr).add 0).add 0 = ⟨b, off, spot⟩ := by simp [Addr.add]
        rw [e0] at this
        simpa using World.cell?_spot (by simpa using this)
      subst hspot
      have hcell : ∀ i (hi : i < Xl.length), W.cells? 0 ((⟨b, off, none⟩ : Addr).add (i * 1)) 1 = some [.string Xl[i]] → W.cell? ⟨b, off + i, none⟩ = some (.string Xl[i]) := fun i hi h1 => by
        obtain ⟨_, _, hc⟩ := World.cells?_some h1
        rw [add_plain, Nat.mul_one] at hc
        have q := (add_plain b (off + i) 0) ▸ hc 0 (by omega)
        simpa using q
      have hbw : b < W.heap.size := by
        obtain ⟨_, h1⟩ := hall 0 (by omega)
        exact World.block_lt_of_cell? W _ (hcell 0 (by omega) h1)
      refine ⟨Xl, Or.inr ⟨b, off, m, by rw [hcs, hF], ?_, by omega, hbw, Nat.zero_le _, by omega, fun i hi => ?_⟩⟩
      · intro e; rw [e] at hF; simp at hF; omega
      · obtain ⟨hz, h1⟩ := hall i hi
        exact ⟨hz, hcell i hi h1⟩
end
theorem Try.cells147 : Try.prog.cellsOf 147 = 2 := by kernel_rfl
theorem lstRa {l : List Value} (h : l.length = 2) : ∃ c0 c1, l = [c0, c1] := by
  match l, h with
  | [c0, c1], _ => exact ⟨c0, c1, rfl⟩
section
variable {H : Type} {enc : TypeId × Value → H} {W : World}
set_option maxRecDepth 100000 in
theorem open_Ra0 {fuel : Nat} {cs : List Value} {x : DataW H × List MemPlace} (h : DataW.trod enc Try.prog W 0 (fun _ => true) true fuel 147 cs = some x) : ∃ U, RaC 0 W cs U := by
  obtain ⟨xs, n, _, _, hl, hlen, hfld⟩ := DataW.trod_struct Try.underlying147 h
  obtain ⟨c0, c1, rfl⟩ := lstRa (hl.trans Try.cells147)
  simp only [Array.size, List.length_cons, List.length_nil] at hlen
  have g0 : DataW.trod enc Try.prog W 0 (fun _ => true) true n 3 ((([c0, c1] : List Value).drop 0).take (Try.prog.cellsOf 3)) = xs[0]? := hfld 0 _ rfl
  have g1 : DataW.trod enc Try.prog W 0 (fun _ => true) true n 48 ((([c0, c1] : List Value).drop 1).take (Try.prog.cellsOf 48)) = xs[1]? := hfld 1 _ rfl
  simp only [Try.cells3, Try.cells48, List.drop_succ_cons, List.drop_zero, List.take_succ_cons, List.take_zero] at g0 g1
  rw [List.getElem?_eq_getElem (by omega)] at g0 g1
  obtain ⟨q0, e0, _, _⟩ := DataW.trod_int Try.underlying3 g0
  simp only [List.cons.injEq, and_true] at e0
  subst e0
  obtain ⟨q1, h1⟩ := open_Ris g1
  obtain ⟨a0, k0, rfl⟩ := h1.form
  exact ⟨⟨q0, q1⟩, a0, k0, rfl, ⟨h1⟩⟩
set_option maxRecDepth 100000 in
theorem open_Ra {r : Reach} {b0 : Nat} {v : Value} {d : DataW H} {p : List MemPlace} (hv : Value.okWide Try.prog W r b0 147 v) (h : DataW.Trod enc Try.prog W 0 (fun _ => true) true 147 v d p) : ∃ (cs : List Value) (U : Ra), v = .agg cs.toArray ∧ RaC 0 W cs U := by
  obtain ⟨cs, rfl, hsz⟩ := okWide_struct Try.underlying147 hv
  obtain ⟨fuel, hf⟩ := h
  obtain ⟨U, hU⟩ := open_Ra0 (cs := cs.toList) hf
  exact ⟨cs.toList, U, rfl, hU⟩
end
theorem Try.cells32 : Try.prog.cellsOf 32 = 1 := by kernel_rfl
section
variable {H : Type} {enc : TypeId × Value → H} {W : World}
set_option maxRecDepth 100000 in
theorem open_Rms {fuel : Nat} {c : Value} {x : DataW H × List MemPlace} (h : DataW.trod enc Try.prog W 0 (fun _ => true) true fuel 32 [c] = some x) : ∃ Xl, RmsAt 0 W c Xl := by
  rcases open_slice Try.underlying32 h with ⟨hcs, _⟩ | ⟨a, len, cap, m, n, D, Pl, hcs, _, hl, hm, hmm, _, hx⟩
  · simp only [List.cons.injEq, and_true] at hcs
    exact ⟨[], Or.inl ⟨_, _, hcs, rfl⟩⟩
  · simp only [List.cons.injEq, and_true] at hcs
    simp only [if_true] at hmm
    subst hmm
    rw [Try.cells100] at hx
    by_cases h0 : len = 0
    · subst h0
      exact ⟨[], Or.inl ⟨_, _, hcs, rfl⟩⟩
    · obtain ⟨Xl, hF, hall⟩ := choose_list (p := fun i (x : Rm) => ∃ cs', W.cells? 0 (a.add (i * 8)) 8 = some cs' ∧ RmC 0 W cs' x) len (fun i hi => by
        obtain ⟨cs', h1, h2⟩ := hx i (by omega)
        obtain ⟨S, hS⟩ := open_Rm0 h2
        exact ⟨S, cs', h1, hS⟩)
      have hsp : ∃ b off, a = ⟨b, off, none⟩ := by
        obtain ⟨b, off, spot⟩ := a
        obtain ⟨cs', h1, hS⟩ := hall 0 (by omega)
        have := (World.cells?_some h1).2.2 0 (by omega)
        rw [Nat.zero_mul] at this
        have e0 : ((⟨b, off, spot⟩ : Addr).add 0).add 0 = ⟨b, off, spot⟩ := by simp [Addr.add]
        rw [e0, List.getElem?_eq_getElem (by have := hS.len; omega)] at this
        have hs : spot = none := by simpa using World.cell?_spot (by simpa using this)
        exact ⟨b, off, by rw [hs]⟩
      obtain ⟨b, off, rfl⟩ := hsp
      have hrng : ∀ i (cs' : List Value), W.cells? 0 ((⟨b, off, none⟩ : Addr).add (i * 8)) 8 = some cs' → W.rangeAt b (off + i * 8) cs' := fun i cs' h1 j v hv => by
        obtain ⟨_, hln, hc⟩ := World.cells?_some h1
        have hj : j < cs'.length := (List.getElem?_eq_some_iff.1 hv).1
        have q := hc j (by omega)
        rw [add_plain, add_plain] at q
        rw [q, hv]
      have hbw : b < W.heap.size := by
        obtain ⟨cs', h1, hS⟩ := hall 0 (by omega)
        exact World.block_lt_of_cell? W _ (hrng 0 cs' h1 0 _ (List.getElem?_eq_getElem (by have := hS.len; omega)))
      refine ⟨Xl, Or.inr ⟨b, off, m, by rw [hcs, hF], ?_, by omega, hbw, Nat.zero_le _, by omega, fun i hi => ?_⟩⟩
      · intro e; rw [e] at hF; simp at hF; omega
      · obtain ⟨cs', h1, hS⟩ := hall i hi
        exact ⟨cs', hrng i cs' h1, hS⟩
end
theorem Try.cells95 : Try.prog.cellsOf 95 = 1 := by kernel_rfl
section
variable {H : Type} {enc : TypeId × Value → H} {W : World}
set_option maxRecDepth 100000 in
theorem open_Ras {fuel : Nat} {c : Value} {x : DataW H × List MemPlace} (h : DataW.trod enc Try.prog W 0 (fun _ => true) true fuel 95 [c] = some x) : ∃ Xl, RasAt 0 W c Xl := by
  rcases open_slice Try.underlying95 h with ⟨hcs, _⟩ | ⟨a, len, cap, m, n, D, Pl, hcs, _, hl, hm, hmm, _, hx⟩
  · simp only [List.cons.injEq, and_true] at hcs
    exact ⟨[], Or.inl ⟨_, _, hcs, rfl⟩⟩
  · simp only [List.cons.injEq, and_true] at hcs
    simp only [if_true] at hmm
    subst hmm
    rw [Try.cells147] at hx
    by_cases h0 : len = 0
    · subst h0
      exact ⟨[], Or.inl ⟨_, _, hcs, rfl⟩⟩
    · obtain ⟨Xl, hF, hall⟩ := choose_list (p := fun i (x : Ra) => ∃ cs', W.cells? 0 (a.add (i * 2)) 2 = some cs' ∧ RaC 0 W cs' x) len (fun i hi => by
        obtain ⟨cs', h1, h2⟩ := hx i (by omega)
        obtain ⟨S, hS⟩ := open_Ra0 h2
        exact ⟨S, cs', h1, hS⟩)
      have hsp : ∃ b off, a = ⟨b, off, none⟩ := by
        obtain ⟨b, off, spot⟩ := a
        obtain ⟨cs', h1, hS⟩ := hall 0 (by omega)
        have := (World.cells?_some h1).2.2 0 (by omega)
        rw [Nat.zero_mul] at this
        have e0 : ((⟨b, off, spot⟩ : Addr).add 0).add 0 = ⟨b, off, spot⟩ := by simp [Addr.add]
        rw [e0, List.getElem?_eq_getElem (by have := hS.len; omega)] at this
        have hs : spot = none := by simpa using World.cell?_spot (by simpa using this)
        exact ⟨b, off, by rw [hs]⟩
      obtain ⟨b, off, rfl⟩ := hsp
      have hrng : ∀ i (cs' : List Value), W.cells? 0 ((⟨b, off, none⟩ : Addr).add (i * 2)) 2 = some cs' → W.rangeAt b (off + i * 2) cs' := fun i cs' h1 j v hv => by
        obtain ⟨_, hln, hc⟩ := World.cells?_some h1
        have hj : j < cs'.length := (List.getElem?_eq_some_iff.1 hv).1
        have q := hc j (by omega)
        rw [add_plain, add_plain] at q
        rw [q, hv]
      have hbw : b < W.heap.size := by
        obtain ⟨cs', h1, hS⟩ := hall 0 (by omega)
        exact World.block_lt_of_cell? W _ (hrng 0 cs' h1 0 _ (List.getElem?_eq_getElem (by have := hS.len; omega)))
      refine ⟨Xl, Or.inr ⟨b, off, m, by rw [hcs, hF], ?_, by omega, hbw, Nat.zero_le _, by omega, fun i hi => ?_⟩⟩
      · intro e; rw [e] at hF; simp at hF; omega
      · obtain ⟨cs', h1, hS⟩ := hall i hi
        exact ⟨cs', hrng i cs' h1, hS⟩
end
end Go.Proofs.Ytoklnkojacdciaa
