import Derived.Test.YtdeammfdkaomlaaGreatV36
import Derived.Test.YtdeammfdkaomlaaGreatV37
import Derived.ChangeSlices
namespace Go.Proofs.YtdeammfdkaomlaaGreat
open Go.ChangeShapes Go.WideShapes Go.ChangeAt Go.RowKit Go.Deep

theorem Tryz.cells129 : Tryz.prog.cellsOf 129 = 7 := by kernel_rfl
theorem lstGr {l : List Value} (h : l.length = 7) : ∃ c0 c1 c2 c3 c4 c5 c6, l = [c0, c1, c2, c3, c4, c5, c6] := by
  match l, h with
  | [c0, c1, c2, c3, c4, c5, c6], _ => exact ⟨c0, c1, c2, c3, c4, c5, c6, rfl⟩
section
variable {H : Type} {enc : TypeId × Value → H} {W : World}
set_option maxRecDepth 100000 in
theorem open_Gr {fuel : Nat} {cs : List Value} {x : DataW H × List MemPlace} (h : DataW.trod enc Tryz.prog W 0 (fun _ => true) true fuel 129 cs = some x) :
    ∃ (x : Gr) (vv0 : Value), cs = [.int .i64 x.nu, .string x.tw, .string x.gb, vv0, .string x.kd, .string x.tm, .string x.pf] ∧ IntsIn 0 W vv0 x.vb ∧ GrSize x := by
  obtain ⟨xs, n, _, _, hl, hlen, hfld⟩ := DataW.trod_struct Tryz.underlying129 h
  obtain ⟨c0, c1, c2, c3, c4, c5, c6, rfl⟩ := lstGr (hl.trans Tryz.cells129)
  simp only [Array.size, List.length_cons, List.length_nil] at hlen
  have g0 : DataW.trod enc Tryz.prog W 0 (fun _ => true) true n 3 ((([c0, c1, c2, c3, c4, c5, c6] : List Value).drop 0).take (Tryz.prog.cellsOf 3)) = xs[0]? := hfld 0 _ rfl
  have g1 : DataW.trod enc Tryz.prog W 0 (fun _ => true) true n 9 ((([c0, c1, c2, c3, c4, c5, c6] : List Value).drop 1).take (Tryz.prog.cellsOf 9)) = xs[1]? := hfld 1 _ rfl
  have g2 : DataW.trod enc Tryz.prog W 0 (fun _ => true) true n 9 ((([c0, c1, c2, c3, c4, c5, c6] : List Value).drop 2).take (Tryz.prog.cellsOf 9)) = xs[2]? := hfld 2 _ rfl
  have g3 : DataW.trod enc Tryz.prog W 0 (fun _ => true) true n 127 ((([c0, c1, c2, c3, c4, c5, c6] : List Value).drop 3).take (Tryz.prog.cellsOf 127)) = xs[3]? := hfld 3 _ rfl
  simp only [Tryz.cells3, Tryz.cells127, Tryz.cells9, List.drop_succ_cons, List.drop_zero, List.take_succ_cons, List.take_zero] at g0 g1 g2 g3
  rw [List.getElem?_eq_getElem (by omega)] at g0 g1 g2 g3
  obtain ⟨q0, e0, _, _⟩ := DataW.trod_int Tryz.underlying3 g0
  obtain ⟨q1, e1, _, s1⟩ := DataW.trod_string Tryz.underlying9 g1
  obtain ⟨q2, e2, _, s2⟩ := DataW.trod_string Tryz.underlying9 g2
  obtain ⟨q3, v3, e3, hq3, z3⟩ := open_ru0 g3
  simp only [List.cons.injEq, and_true] at e0 e1 e2 e3
  obtain ⟨r0, r1, r2, r3⟩ := e3
  subst e0 e1 e2 r0 r1 r2 r3
  exact ⟨⟨q0, q1, q2, q3.vb, q3.kd, q3.tm, q3.pf⟩, _, rfl, hq3, ⟨s1, s2, z3.s1, z3.s2, z3.s3⟩⟩
set_option maxRecDepth 100000 in
theorem open_Grs {fuel : Nat} {c : Value} {x : DataW H × List MemPlace} (h : DataW.trod enc Tryz.prog W 0 (fun _ => true) true fuel 23 [c] = some x) : ∃ Xl, GrsAt 0 W c Xl := by
  rcases open_slice Tryz.underlying23 h with ⟨hcs, _⟩ | ⟨a, len, cap, m, n, D, Pl, hcs, _, hl, hm, hmm, _, hx⟩
  · simp only [List.cons.injEq, and_true] at hcs
    exact ⟨[], Or.inl ⟨_, _, hcs, rfl⟩⟩
  · simp only [List.cons.injEq, and_true] at hcs
    simp only [if_true] at hmm
    subst hmm
    rw [Tryz.cells129] at hx
    by_cases h0 : len = 0
    · subst h0
      exact ⟨[], Or.inl ⟨_, _, hcs, rfl⟩⟩
    · obtain ⟨Xl, hF, hall⟩ := choose_list (p := fun i (x : Gr) => GrSize x ∧ ∃ vv0, IntsIn 0 W vv0 x.vb ∧ W.cells? 0 (a.add (i * 7)) 7 = some [.int .i64 x.nu, .string x.tw, .string x.gb, vv0, .string x.kd, .string x.tm, .string x.pf]) len (fun i hi => by
        obtain ⟨cs', h1, h2⟩ := hx i (by omega)
        obtain ⟨md, vv0, e, hw0, hz⟩ := open_Gr h2
        rw [e] at h1
        exact ⟨md, hz, vv0, hw0, h1⟩)
      obtain ⟨b, off, spot⟩ := a
      have hspot : spot = none := by
        obtain ⟨_, vv0, _, h1⟩ := hall 0 (by omega)
        have := (World.cells?_some h1).2.2 0 (by omega)
        rw [Nat.zero_mul] at this
        have e0 : ((⟨b, off, spot⟩ : Addr).add 0).add 0 = ⟨b, off, spot⟩ := by simp [Addr.add]
        rw [e0] at this
        simpa using World.cell?_spot (by simpa using this)
      subst hspot
      have hcell : ∀ i (hi : i < Xl.length) vv0, W.cells? 0 ((⟨b, off, none⟩ : Addr).add (i * 7)) 7 = some [.int .i64 Xl[i].nu, .string Xl[i].tw, .string Xl[i].gb, vv0, .string Xl[i].kd, .string Xl[i].tm, .string Xl[i].pf] → GrCells W b (off + i * 7) Xl[i] vv0 := fun i hi vv0 h1 => by
        obtain ⟨_, _, hc⟩ := World.cells?_some h1
        rw [add_plain] at hc
        have q := fun j (hj : j < 7) => (add_plain b (off + i * 7) j) ▸ hc j hj
        exact ⟨by simpa using q 0 (by omega), by simpa using q 1 (by omega), by simpa using q 2 (by omega), by simpa using q 3 (by omega), by simpa using q 4 (by omega), by simpa using q 5 (by omega), by simpa using q 6 (by omega)⟩
      have hbw : b < W.heap.size := by
        obtain ⟨_, vv0, _, h1⟩ := hall 0 (by omega)
        exact World.block_lt_of_cell? W _ (hcell 0 (by omega) vv0 h1).c0
      refine ⟨Xl, Or.inr ⟨b, off, m, by rw [hcs, hF], ?_, by omega, hbw, Nat.zero_le _, by omega, fun i hi => ?_⟩⟩
      · intro e; rw [e] at hF; simp at hF; omega
      · obtain ⟨hz, vv0, hw0, h1⟩ := hall i hi
        exact ⟨hz, vv0, hcell i hi vv0 h1, hw0⟩
end
theorem Tryz.cells23 : Tryz.prog.cellsOf 23 = 1 := by kernel_rfl
end Go.Proofs.YtdeammfdkaomlaaGreat
namespace Go.Proofs.YtdeammfdkaomlaaGreat
open Go.ChangeShapes Go.WideShapes Go.ChangeAt Go.RowKit Go.Deep
theorem open_Tms {H : Type} {enc : TypeId × Value → H} {W : World} {fuel : Nat} {c : Value} {x : DataW H × List MemPlace} (h : DataW.trod enc Tryz.prog W 0 (fun _ => true) true fuel 22 [c] = some x) : ∃ Ts, TmsAt 0 W c Ts := open_tms h
theorem Tryz.cells25 : Tryz.prog.cellsOf 25 = 2 := by kernel_rfl
theorem lstHo {l : List Value} (h : l.length = 2) : ∃ c0 c1, l = [c0, c1] := by
  match l, h with
  | [c0, c1], _ => exact ⟨c0, c1, rfl⟩
section
variable {H : Type} {enc : TypeId × Value → H} {W : World}
set_option maxRecDepth 100000 in
theorem open_Ho0 {fuel : Nat} {cs : List Value} {x : DataW H × List MemPlace} (h : DataW.trod enc Tryz.prog W 0 (fun _ => true) true fuel 25 cs = some x) : ∃ U, HoC 0 W cs U := by
  obtain ⟨xs, n, _, _, hl, hlen, hfld⟩ := DataW.trod_struct Tryz.underlying25 h
  obtain ⟨c0, c1, rfl⟩ := lstHo (hl.trans Tryz.cells25)
  simp only [Array.size, List.length_cons, List.length_nil] at hlen
  have g0 : DataW.trod enc Tryz.prog W 0 (fun _ => true) true n 22 ((([c0, c1] : List Value).drop 0).take (Tryz.prog.cellsOf 22)) = xs[0]? := hfld 0 _ rfl
  have g1 : DataW.trod enc Tryz.prog W 0 (fun _ => true) true n 23 ((([c0, c1] : List Value).drop 1).take (Tryz.prog.cellsOf 23)) = xs[1]? := hfld 1 _ rfl
  simp only [Tryz.cells23, Tryz.cells22, List.drop_succ_cons, List.drop_zero, List.take_succ_cons, List.take_zero] at g0 g1
  rw [List.getElem?_eq_getElem (by omega)] at g0 g1
  obtain ⟨q0, h0⟩ := open_Tms g0
  obtain ⟨a0, k0, rfl⟩ := h0.form
  obtain ⟨q1, h1⟩ := open_Grs g1
  obtain ⟨a1, k1, rfl⟩ := h1.form
  exact ⟨⟨q0, q1⟩, a0, k0, a1, k1, rfl, ⟨h0, h1⟩⟩
set_option maxRecDepth 100000 in
theorem open_Ho {r : Reach} {b0 : Nat} {v : Value} {d : DataW H} {p : List MemPlace} (hv : Value.okWide Tryz.prog W r b0 25 v) (h : DataW.Trod enc Tryz.prog W 0 (fun _ => true) true 25 v d p) : ∃ (cs : List Value) (U : Ho), v = .agg cs.toArray ∧ HoC 0 W cs U := by
  obtain ⟨cs, rfl, hsz⟩ := okWide_struct Tryz.underlying25 hv
  obtain ⟨fuel, hf⟩ := h
  obtain ⟨U, hU⟩ := open_Ho0 (cs := cs.toList) hf
  exact ⟨cs.toList, U, rfl, hU⟩
end
end Go.Proofs.YtdeammfdkaomlaaGreat
