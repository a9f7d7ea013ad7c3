import Derived.Test.YtlednecohppljaaGreatV40
namespace Go.Proofs.YtlednecohppljaaGreat
open Go.ChangeShapes Go.WideShapes Go.ChangeAt Go.RowKit Go.Deep
theorem Tryz.cells27 : Tryz.prog.cellsOf 27 = 1 := by kernel_rfl
section
variable {H : Type} {enc : TypeId × Value → H} {W : World}
set_option maxRecDepth 100000 in
theorem open_Ris {fuel : Nat} {c : Value} {x : DataW H × List MemPlace} (h : DataW.trod enc Tryz.prog W 0 (fun _ => true) true fuel 27 [c] = some x) : ∃ Xl, RisAt 0 W c Xl := by
  rcases open_slice Tryz.underlying27 h with ⟨hcs, _⟩ | ⟨a, len, cap, m, n, D, Pl, hcs, _, hl, hm, hmm, _, hx⟩
  · simp only [List.cons.injEq, and_true] at hcs
    exact ⟨[], Or.inl ⟨_, _, hcs, rfl⟩⟩
  · simp only [List.cons.injEq, and_true] at hcs
    simp only [if_true] at hmm
    subst hmm
    rw [Tryz.cells3] at hx
    by_cases h0 : len = 0
    · subst h0
      exact ⟨[], Or.inl ⟨_, _, hcs, rfl⟩⟩
    · obtain ⟨Xl, hF, hall⟩ := choose_list (p := fun i (x : Int) => RiSize x ∧ W.cells? 0 (a.add (i * 1)) 1 = some [.int .i64 x]) len (fun i hi => by
        obtain ⟨cs', h1, h2⟩ := hx i (by omega)
        obtain ⟨q1, e1, _, s1⟩ := DataW.trod_int Tryz.underlying3 h2
        rw [e1] at h1
        exact ⟨q1, rfl, h1⟩)
      obtain ⟨b, off, spot⟩ := a
      have hspot : spot = none := by
        obtain ⟨_, h1⟩ := hall 0 (by omega)
        have := (World.cells?_some h1).2.2 0 (by omega)
        rw [Nat.zero_mul] at this
        have e0 : ((⟨b, off, spot⟩ : Addr).add 0).add 0 = ⟨b, off, spot⟩ := by simp [Addr.add]
        rw [e0] at this
        simpa using World.cell?_spot (by simpa using this)
      subst hspot
      have hcell : ∀ i (hi : i < Xl.length), W.cells? 0 ((⟨b, off, none⟩ : Addr).add (i * 1)) 1 = some [.int .i64 Xl[i]] → W.cell? ⟨b, off + i, none⟩ = some (.int .i64 Xl[i]) := fun i hi h1 => by
        obtain ⟨_, _, hc⟩ := World.cells?_some h1
        rw [add_plain, Nat.mul_one] at hc
        have q := (add_plain b (off + i) 0) ▸ hc 0 (by omega)
        simpa using q
      have hbw : b < W.heap.size := by
        obtain ⟨_, h1⟩ := hall 0 (by omega)
        exact World.block_lt_of_cell? W _ (hcell 0 (by omega) h1)
      refine ⟨Xl, Or.inr ⟨b, off, m, by rw [hcs, hF], ?_, by omega, hbw, Nat.zero_le _, by omega, fun i hi => ?_⟩⟩
      · intro e; rw [e] at hF; simp at hF; omega
      · obtain ⟨hz, h1⟩ := hall i hi
        exact ⟨hz, hcell i hi h1⟩
end
theorem Tryz.cells26 : Tryz.prog.cellsOf 26 = 1 := by kernel_rfl
section
variable {H : Type} {enc : TypeId × Value → H} {W : World}
set_option maxRecDepth 100000 in
theorem open_Rts {fuel : Nat} {c : Value} {x : DataW H × List MemPlace} (h : DataW.trod enc Tryz.prog W 0 (fun _ => true) true fuel 26 [c] = some x) : ∃ Xl, RtsAt 0 W c Xl := by
  rcases open_slice Tryz.underlying26 h with ⟨hcs, _⟩ | ⟨a, len, cap, m, n, D, Pl, hcs, _, hl, hm, hmm, _, hx⟩
  · simp only [List.cons.injEq, and_true] at hcs
    exact ⟨[], Or.inl ⟨_, _, hcs, rfl⟩⟩
  · simp only [List.cons.injEq, and_true] at hcs
    simp only [if_true] at hmm
    subst hmm
    rw [Tryz.cells9] at hx
    by_cases h0 : len = 0
    · subst h0
      exact ⟨[], Or.inl ⟨_, _, hcs, rfl⟩⟩
    · obtain ⟨Xl, hF, hall⟩ := choose_list (p := fun i (x : ByteArray) => RtSize x ∧ W.cells? 0 (a.add (i * 1)) 1 = some [.string x]) len (fun i hi => by
        obtain ⟨cs', h1, h2⟩ := hx i (by omega)
        obtain ⟨q1, e1, _, s1⟩ := DataW.trod_string Tryz.underlying9 h2
        rw [e1] at h1
        exact ⟨q1, s1, h1⟩)
      obtain ⟨b, off, spot⟩ := a
      have hspot : spot = none := by
        obtain ⟨_, h1⟩ := hall 0 (by omega)
        have := (World.cells?_some h1).2.2 0 (by omega)
        rw [Nat.zero_mul] at this
        have e0 : ((⟨b, off, spot⟩ : Addr).add 0).add 0 = ⟨b, off, spot⟩ := by simp [Addr.add]
        rw [e0] at this
        simpa using World.cell?_spot (by simpa using this)
      subst hspot
      have hcell : ∀ i (hi : i < Xl.length), W.cells? 0 ((⟨b, off, none⟩ : Addr).add (i * 1)) 1 = some [.string Xl[i]] → W.cell? ⟨b, off + i, none⟩ = some (.string Xl[i]) := fun i hi h1 => by
        obtain ⟨_, _, hc⟩ := World.cells?_some h1
        rw [add_plain, Nat.mul_one] at hc
        have q := (add_plain b (off + i) 0) ▸ hc 0 (by omega)
        simpa using q
      have hbw : b < W.heap.size := by
        obtain ⟨_, h1⟩ := hall 0 (by omega)
        exact World.block_lt_of_cell? W _ (hcell 0 (by omega) h1)
      refine ⟨Xl, Or.inr ⟨b, off, m, by rw [hcs, hF], ?_, by omega, hbw, Nat.zero_le _, by omega, fun i hi => ?_⟩⟩
      · intro e; rw [e] at hF; simp at hF; omega
      · obtain ⟨hz, h1⟩ := hall i hi
        exact ⟨hz, hcell i hi h1⟩
end
theorem Tryz.cells92 : Tryz.prog.cellsOf 92 = 2 := by kernel_rfl
theorem lstRa {l : List Value} (h : l.length = 2) : ∃ c0 c1, l = [c0, c1] := by
  match l, h with
  | [c0, c1], _ => exact ⟨c0, c1, rfl⟩
section
variable {H : Type} {enc : TypeId × Value → H} {W : World}
set_option maxRecDepth 100000 in
theorem open_Ra0 {fuel : Nat} {cs : List Value} {x : DataW H × List MemPlace} (h : DataW.trod enc Tryz.prog W 0 (fun _ => true) true fuel 92 cs = some x) : ∃ U, RaC 0 W cs U := by
  obtain ⟨xs, n, _, _, hl, hlen, hfld⟩ := DataW.trod_struct Tryz.underlying92 h
  obtain ⟨c0, c1, rfl⟩ := lstRa (hl.trans Tryz.cells92)
  simp only [Array.size, List.length_cons, List.length_nil] at hlen
  have g0 : DataW.trod enc Tryz.prog W 0 (fun _ => true) true n 3 ((([c0, c1] : List Value).drop 0).take (Tryz.prog.cellsOf 3)) = xs[0]? := hfld 0 _ rfl
  have g1 : DataW.trod enc Tryz.prog W 0 (fun _ => true) true n 27 ((([c0, c1] : List Value).drop 1).take (Tryz.prog.cellsOf 27)) = xs[1]? := hfld 1 _ rfl
  simp only [Tryz.cells3, Tryz.cells27, List.drop_succ_cons, List.drop_zero, List.take_succ_cons, List.take_zero] at g0 g1
  rw [List.getElem?_eq_getElem (by omega)] at g0 g1
  obtain ⟨q0, e0, _, _⟩ := DataW.trod_int Tryz.underlying3 g0
  simp only [List.cons.injEq, and_true] at e0
  subst e0
  obtain ⟨q1, h1⟩ := open_Ris g1
  obtain ⟨a0, k0, rfl⟩ := h1.form
  exact ⟨⟨q0, q1⟩, a0, k0, rfl, ⟨h1⟩⟩
set_option maxRecDepth 100000 in
theorem open_Ra {r : Reach} {b0 : Nat} {v : Value} {d : DataW H} {p : List MemPlace} (hv : Value.okWide Tryz.prog W r b0 92 v) (h : DataW.Trod enc Tryz.prog W 0 (fun _ => true) true 92 v d p) : ∃ (cs : List Value) (U : Ra), v = .agg cs.toArray ∧ RaC 0 W cs U := by
  obtain ⟨cs, rfl, hsz⟩ := okWide_struct Tryz.underlying92 hv
  obtain ⟨fuel, hf⟩ := h
  obtain ⟨U, hU⟩ := open_Ra0 (cs := cs.toList) hf
  exact ⟨cs.toList, U, rfl, hU⟩
end
theorem Tryz.cells25 : Tryz.prog.cellsOf 25 = 1 := by kernel_rfl
section
variable {H : Type} {enc : TypeId × Value → H} {W : World}
set_option maxRecDepth 100000 in
theorem open_Rms {fuel : Nat} {c : Value} {x : DataW H × List MemPlace} (h : DataW.trod enc Tryz.prog W 0 (fun _ => true) true fuel 25 [c] = some x) : ∃ Xl, RmsAt 0 W c Xl := by
  rcases open_slice Tryz.underlying25 h with ⟨hcs, _⟩ | ⟨a, len, cap, m, n, D, Pl, hcs, _, hl, hm, hmm, _, hx⟩
  · simp only [List.cons.injEq, and_true] at hcs
    exact ⟨[], Or.inl ⟨_, _, hcs, rfl⟩⟩
  · simp only [List.cons.injEq, and_true] at hcs
    simp only [if_true] at hmm
    subst hmm
    rw [Tryz.cells32] at hx
    by_cases h0 : len = 0
    · subst h0
      exact ⟨[], Or.inl ⟨_, _, hcs, rfl⟩⟩
    · obtain ⟨Xl, hF, hall⟩ := choose_list (p := fun i (x : Rm) => ∃ cs', W.cells? 0 (a.add (i * 8)) 8 = some cs' ∧ RmC 0 W cs' x) len (fun i hi => by
        obtain ⟨cs', h1, h2⟩ := hx i (by omega)
        obtain ⟨S, hS⟩ := open_Rm0 h2
        exact ⟨S, cs', h1, hS⟩)
      have hsp : ∃ b off, a = ⟨b, off, none⟩ := by
        obtain ⟨b, off, spot⟩ := a
        obtain ⟨cs', h1, hS⟩ := hall 0 (by omega)
        have := (World.cells?_some h1).2.2 0 (by omega)
        rw [Nat.zero_mul] at this
        have e0 : ((⟨b, off, spot⟩ : Addr).add 0).add 0 = ⟨b, off, spot⟩ := by simp [Addr.add]
        rw [e0, List.getElem?_eq_getElem (by have := hS.len; omega)] at this
        have hs : spot = none := by simpa using World.cell?_spot (by simpa using this)
        exact ⟨b, off, by rw [hs]⟩
      obtain ⟨b, off, rfl⟩ := hsp
      have hrng : ∀ i (cs' : List Value), W.cells? 0 ((⟨b, off, none⟩ : Addr).add (i * 8)) 8 = some cs' → W.rangeAt b (off + i * 8) cs' := fun i cs' h1 j v hv => by
        obtain ⟨_, hln, hc⟩ := World.cells?_some h1
        have hj : j < cs'.length := (List.getElem?_eq_some_iff.1 hv).1
        have q := hc j (by omega)
        rw [add_plain, add_plain] at q
        rw [q, hv]
      have hbw : b < W.heap.size := by
        obtain ⟨cs', h1, hS⟩ := hall 0 (by omega)
        exact World.block_lt_of_cell? W _ (hrng 0 cs' h1 0 _ (List.getElem?_eq_getElem (by have := hS.len; omega)))
      refine ⟨Xl, Or.inr ⟨b, off, m, by rw [hcs, hF], ?_, by omega, hbw, Nat.zero_le _, by omega, fun i hi => ?_⟩⟩
      · intro e; rw [e] at hF; simp at hF; omega
      · obtain ⟨cs', h1, hS⟩ := hall i hi
        exact ⟨cs', hrng i cs' h1, hS⟩
end
theorem Tryz.cells28 : Tryz.prog.cellsOf 28 = 1 := by kernel_rfl
section
variable {H : Type} {enc : TypeId × Value → H} {W : World}
set_option maxRecDepth 100000 in
theorem open_Ras {fuel : Nat} {c : Value} {x : DataW H × List MemPlace} (h : DataW.trod enc Tryz.prog W 0 (fun _ => true) true fuel 28 [c] = some x) : ∃ Xl, RasAt 0 W c Xl := by
  rcases open_slice Tryz.underlying28 h with ⟨hcs, _⟩ | ⟨a, len, cap, m, n, D, Pl, hcs, _, hl, hm, hmm, _, hx⟩
  · simp only [List.cons.injEq, and_true] at hcs
    exact ⟨[], Or.inl ⟨_, _, hcs, rfl⟩⟩
  · simp only [List.cons.injEq, and_true] at hcs
    simp only [if_true] at hmm
    subst hmm
    rw [Tryz.cells92] at hx
    by_cases h0 : len = 0
    · subst h0
      exact ⟨[], Or.inl ⟨_, _, hcs, rfl⟩⟩
    · obtain ⟨Xl, hF, hall⟩ := choose_list (p := fun i (x : Ra) => ∃ cs', W.cells? 0 (a.add (i * 2)) 2 = some cs' ∧ RaC 0 W cs' x) len (fun i hi => by
        obtain ⟨cs', h1, h2⟩ := hx i (by omega)
        obtain ⟨S, hS⟩ := open_Ra0 h2
        exact ⟨S, cs', h1, hS⟩)
      have hsp : ∃ b off, a = ⟨b, off, none⟩ := by
        obtain ⟨b, off, spot⟩ := a
        obtain ⟨cs', h1, hS⟩ := hall 0 (by omega)
        have := (World.cells?_some h1).2.2 0 (by omega)
        rw [Nat.zero_mul] at this
        have e0 : ((⟨b, off, spot⟩ : Addr).add 0).add 0 = ⟨b, off, spot⟩ := by simp [Addr.add]
        rw [e0, List.getElem?_eq_getElem (by have := hS.len; omega)] at this
        have hs : spot = none := by simpa using World.cell?_spot (by simpa using this)
        exact ⟨b, off, by rw [hs]⟩
      obtain ⟨b, off, rfl⟩ := hsp
      have hrng : ∀ i (cs' : List Value), W.cells? 0 ((⟨b, off, none⟩ : Addr).add (i * 2)) 2 = some cs' → W.rangeAt b (off + i * 2) cs' := fun i cs' h1 j v hv => by
        obtain ⟨_, hln, hc⟩ := World.cells?_some h1
        have hj : j < cs'.length := (List.getElem?_eq_some_iff.1 hv).1
        have q := hc j (by omega)
        rw [add_plain, add_plain] at q
        rw [q, hv]
      have hbw : b < W.heap.size := by
        obtain ⟨cs', h1, hS⟩ := hall 0 (by omega)
        exact World.block_lt_of_cell? W _ (hrng 0 cs' h1 0 _ (List.getElem?_eq_getElem (by have := hS.len; omega)))
      refine ⟨Xl, Or.inr ⟨b, off, m, by rw [hcs, hF], ?_, by omega, hbw, Nat.zero_le _, by omega, fun i hi => ?_⟩⟩
      · intro e; rw [e] at hF; simp at hF; omega
      · obtain ⟨cs', h1, hS⟩ := hall i hi
        exact ⟨cs', hrng i cs' h1, hS⟩
end
end Go.Proofs.YtlednecohppljaaGreat
namespace Go.Proofs.YtlednecohppljaaGreat
open Go.ChangeShapes Go.WideShapes Go.ChangeAt Go.RowKit Go.Deep
theorem Tryz.cells30 : Tryz.prog.cellsOf 30 = 18 := by kernel_rfl
theorem lstRr {l : List Value} (h : l.length = 18) : ∃ c0 c1 c2 c3 c4 c5 c6 c7 c8 c9 c10 c11 c12 c13 c14 c15 c16 c17, l = [c0, c1, c2, c3, c4, c5, c6, c7, c8, c9, c10, c11, c12, c13, c14, c15, c16, c17] := by
  match l, h with
  | [c0, c1, c2, c3, c4, c5, c6, c7, c8, c9, c10, c11, c12, c13, c14, c15, c16, c17], _ => exact ⟨c0, c1, c2, c3, c4, c5, c6, c7, c8, c9, c10, c11, c12, c13, c14, c15, c16, c17, rfl⟩
section
variable {H : Type} {enc : TypeId × Value → H} {W : World}
set_option maxRecDepth 100000 in
theorem open_Rr0 {fuel : Nat} {cs : List Value} {x : DataW H × List MemPlace} (h : DataW.trod enc Tryz.prog W 0 (fun _ => true) true fuel 30 cs = some x) : ∃ U, RrC 0 W cs U := by
  obtain ⟨xs, n, _, _, hl, hlen, hfld⟩ := DataW.trod_struct Tryz.underlying30 h
  obtain ⟨c0, c1, c2, c3, c4, c5, c6, c7, c8, c9, c10, c11, c12, c13, c14, c15, c16, c17, rfl⟩ := lstRr (hl.trans Tryz.cells30)
  simp only [Array.size, List.length_cons, List.length_nil] at hlen
  have g0 : DataW.trod enc Tryz.prog W 0 (fun _ => true) true n 3 ((([c0, c1, c2, c3, c4, c5, c6, c7, c8, c9, c10, c11, c12, c13, c14, c15, c16, c17] : List Value).drop 0).take (Tryz.prog.cellsOf 3)) = xs[0]? := hfld 0 _ rfl
  have g1 : DataW.trod enc Tryz.prog W 0 (fun _ => true) true n 3 ((([c0, c1, c2, c3, c4, c5, c6, c7, c8, c9, c10, c11, c12, c13, c14, c15, c16, c17] : List Value).drop 1).take (Tryz.prog.cellsOf 3)) = xs[1]? := hfld 1 _ rfl
  have g2 : DataW.trod enc Tryz.prog W 0 (fun _ => true) true n 4 ((([c0, c1, c2, c3, c4, c5, c6, c7, c8, c9, c10, c11, c12, c13, c14, c15, c16, c17] : List Value).drop 2).take (Tryz.prog.cellsOf 4)) = xs[2]? := hfld 2 _ rfl
  have g3 : DataW.trod enc Tryz.prog W 0 (fun _ => true) true n 24 ((([c0, c1, c2, c3, c4, c5, c6, c7, c8, c9, c10, c11, c12, c13, c14, c15, c16, c17] : List Value).drop 3).take (Tryz.prog.cellsOf 24)) = xs[3]? := hfld 3 _ rfl
  have g4 : DataW.trod enc Tryz.prog W 0 (fun _ => true) true n 24 ((([c0, c1, c2, c3, c4, c5, c6, c7, c8, c9, c10, c11, c12, c13, c14, c15, c16, c17] : List Value).drop 6).take (Tryz.prog.cellsOf 24)) = xs[4]? := hfld 4 _ rfl
  have g5 : DataW.trod enc Tryz.prog W 0 (fun _ => true) true n 25 ((([c0, c1, c2, c3, c4, c5, c6, c7, c8, c9, c10, c11, c12, c13, c14, c15, c16, c17] : List Value).drop 9).take (Tryz.prog.cellsOf 25)) = xs[5]? := hfld 5 _ rfl
  have g6 : DataW.trod enc Tryz.prog W 0 (fun _ => true) true n 26 ((([c0, c1, c2, c3, c4, c5, c6, c7, c8, c9, c10, c11, c12, c13, c14, c15, c16, c17] : List Value).drop 10).take (Tryz.prog.cellsOf 26)) = xs[6]? := hfld 6 _ rfl
  have g7 : DataW.trod enc Tryz.prog W 0 (fun _ => true) true n 4 ((([c0, c1, c2, c3, c4, c5, c6, c7, c8, c9, c10, c11, c12, c13, c14, c15, c16, c17] : List Value).drop 11).take (Tryz.prog.cellsOf 4)) = xs[7]? := hfld 7 _ rfl
  have g8 : DataW.trod enc Tryz.prog W 0 (fun _ => true) true n 4 ((([c0, c1, c2, c3, c4, c5, c6, c7, c8, c9, c10, c11, c12, c13, c14, c15, c16, c17] : List Value).drop 12).take (Tryz.prog.cellsOf 4)) = xs[8]? := hfld 8 _ rfl
  have g9 : DataW.trod enc Tryz.prog W 0 (fun _ => true) true n 3 ((([c0, c1, c2, c3, c4, c5, c6, c7, c8, c9, c10, c11, c12, c13, c14, c15, c16, c17] : List Value).drop 13).take (Tryz.prog.cellsOf 3)) = xs[9]? := hfld 9 _ rfl
  have g10 : DataW.trod enc Tryz.prog W 0 (fun _ => true) true n 27 ((([c0, c1, c2, c3, c4, c5, c6, c7, c8, c9, c10, c11, c12, c13, c14, c15, c16, c17] : List Value).drop 14).take (Tryz.prog.cellsOf 27)) = xs[10]? := hfld 10 _ rfl
  have g11 : DataW.trod enc Tryz.prog W 0 (fun _ => true) true n 22 ((([c0, c1, c2, c3, c4, c5, c6, c7, c8, c9, c10, c11, c12, c13, c14, c15, c16, c17] : List Value).drop 15).take (Tryz.prog.cellsOf 22)) = xs[11]? := hfld 11 _ rfl
  have g12 : DataW.trod enc Tryz.prog W 0 (fun _ => true) true n 28 ((([c0, c1, c2, c3, c4, c5, c6, c7, c8, c9, c10, c11, c12, c13, c14, c15, c16, c17] : List Value).drop 16).take (Tryz.prog.cellsOf 28)) = xs[12]? := hfld 12 _ rfl
  have g13 : DataW.trod enc Tryz.prog W 0 (fun _ => true) true n 3 ((([c0, c1, c2, c3, c4, c5, c6, c7, c8, c9, c10, c11, c12, c13, c14, c15, c16, c17] : List Value).drop 17).take (Tryz.prog.cellsOf 3)) = xs[13]? := hfld 13 _ rfl
  simp only [Tryz.cells3, Tryz.cells4, Tryz.cells27, Tryz.cells26, Tryz.cells28, Tryz.cells25, Tryz.cells22, Tryz.cells24, List.drop_succ_cons, List.drop_zero, List.take_succ_cons, List.take_zero] at g0 g1 g2 g3 g4 g5 g6 g7 g8 g9 g10 g11 g12 g13
  rw [List.getElem?_eq_getElem (by omega)] at g0 g1 g2 g3 g4 g5 g6 g7 g8 g9 g10 g11 g12 g13
  obtain ⟨q0, e0, _, _⟩ := DataW.trod_int Tryz.underlying3 g0
  simp only [List.cons.injEq, and_true] at e0
  subst e0
  obtain ⟨q1, e1, _, _⟩ := DataW.trod_int Tryz.underlying3 g1
  simp only [List.cons.injEq, and_true] at e1
  subst e1
  obtain ⟨q2, e2, _⟩ := DataW.trod_bool Tryz.underlying4 g2
  simp only [List.cons.injEq, and_true] at e2
  subst e2
  obtain ⟨q3, a0, k0, e3, h3⟩ := open_Rd0 g3
  unfold rdL at e3
  simp only [List.cons.injEq, and_true] at e3
  obtain ⟨r3_0, r3_1, r3_2⟩ := e3
  subst r3_0 r3_1 r3_2
  obtain ⟨q4, a1, k1, e4, h4⟩ := open_Rd0 g4
  unfold rdL at e4
  simp only [List.cons.injEq, and_true] at e4
  obtain ⟨r4_0, r4_1, r4_2⟩ := e4
  subst r4_0 r4_1 r4_2
  obtain ⟨q5, h5⟩ := open_Rms g5
  obtain ⟨a2, k2, rfl⟩ := h5.form
  obtain ⟨q6, h6⟩ := open_Rts g6
  obtain ⟨a3, k3, rfl⟩ := h6.form
  obtain ⟨q7, e7, _⟩ := DataW.trod_bool Tryz.underlying4 g7
  simp only [List.cons.injEq, and_true] at e7
  subst e7
  obtain ⟨q8, e8, _⟩ := DataW.trod_bool Tryz.underlying4 g8
  simp only [List.cons.injEq, and_true] at e8
  subst e8
  obtain ⟨q9, e9, _, _⟩ := DataW.trod_int Tryz.underlying3 g9
  simp only [List.cons.injEq, and_true] at e9
  subst e9
  obtain ⟨q10, h10⟩ := open_Ris g10
  obtain ⟨a4, k4, rfl⟩ := h10.form
  obtain ⟨q11, h11⟩ := open_Rss g11
  obtain ⟨a5, k5, rfl⟩ := h11.form
  obtain ⟨q12, h12⟩ := open_Ras g12
  obtain ⟨a6, k6, rfl⟩ := h12.form
  obtain ⟨q13, e13, _, _⟩ := DataW.trod_int Tryz.underlying3 g13
  simp only [List.cons.injEq, and_true] at e13
  subst e13
  exact ⟨⟨q0, q1, q2, q3, q4, q5, q6, q7, q8, q9, q10, q11, q12, q13⟩, a0, k0, a1, k1, a2, k2, a3, k3, a4, k4, a5, k5, a6, k6, rfl, ⟨h3.l0, h4.l0, h5, h6, h10, h11, h12⟩⟩
set_option maxRecDepth 100000 in
theorem open_Rr {r : Reach} {b0 : Nat} {v : Value} {d : DataW H} {p : List MemPlace} (hv : Value.okWide Tryz.prog W r b0 30 v) (h : DataW.Trod enc Tryz.prog W 0 (fun _ => true) true 30 v d p) : ∃ (cs : List Value) (U : Rr), v = .agg cs.toArray ∧ RrC 0 W cs U := by
  obtain ⟨cs, rfl, hsz⟩ := okWide_struct Tryz.underlying30 hv
  obtain ⟨fuel, hf⟩ := h
  obtain ⟨U, hU⟩ := open_Rr0 (cs := cs.toList) hf
  exact ⟨cs.toList, U, rfl, hU⟩
end
end Go.Proofs.YtlednecohppljaaGreat
