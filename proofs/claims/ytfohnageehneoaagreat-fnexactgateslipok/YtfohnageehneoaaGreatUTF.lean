import Derived.Test.YtfohnageehneoaaGreatUTA
import Derived.Test.YtfohnageehneoaaGreatUTD
import Derived.ChangeSlices
import Derived.Test.YtfohnageehneoaaGreatUOpX
namespace Go.Proofs.YtfohnageehneoaaGreat
open Go.RowKit Go.Deep

end Go.Proofs.YtfohnageehneoaaGreat

namespace Go.Proofs.YtfohnageehneoaaGreat
open Go.ChangeShapes Go.WideShapes Go.ChangeAt Go.RowKit Go.Deep

theorem Tryz.cells62 : Tryz.prog.cellsOf 62 = 4 := by kernel_rfl
theorem Tryz.cells60 : Tryz.prog.cellsOf 60 = 1 := by kernel_rfl
theorem list4 {l : List Value} (h : l.length = 4) : ∃ c0 c1 c2 c3, l = [c0, c1, c2, c3] := by
  match l, h with
  | [c0, c1, c2, c3], _ => exact ⟨c0, c1, c2, c3, rfl⟩
section
variable {H : Type} {enc : TypeId × Value → H} {W : World}
set_option maxRecDepth 100000 in
theorem open_vbs {fuel : Nat} {c : Value} {x : DataW H × List MemPlace} (h : DataW.trod enc Tryz.prog W 0 (fun _ => true) true fuel 60 [c] = some x) : ∃ L, IntsIn 0 W c L := by
  rcases Go.ChangeShapes.open_ints Tryz.underlying60 Tryz.underlying3 Tryz.cells3 h with ⟨hcs, _⟩ | ⟨a, len, cap, zs, hcs, _, hl, hm, hzs, _, hcell, _⟩
  · simp only [List.cons.injEq, and_true] at hcs
    exact ⟨[], Or.inl ⟨_, _, hcs, rfl⟩⟩
  · simp only [List.cons.injEq, and_true] at hcs
    simp only [if_true] at hzs
    by_cases h0 : len = 0
    · subst h0
      exact ⟨[], Or.inl ⟨_, _, hcs, rfl⟩⟩
    · obtain ⟨b, off, spot⟩ := a
      have hspot : spot = none := by simpa [Addr.add] using World.cell?_spot (hcell 0 (by omega))
      subst hspot
      have hlen : (zs.take len).length = len := by rw [List.length_take]; omega
      refine ⟨zs.take len, Or.inr ⟨b, off, cap, by rw [hcs, hlen], ?_, by omega, ?_, Nat.zero_le _, ?_⟩⟩
      · intro e; rw [e] at hlen; simp at hlen; omega
      · exact World.block_lt_of_cell? W _ (hcell 0 (by omega))
      · intro i hi
        have := hcell i (by omega)
        rw [add_plain] at this
        rw [this, List.getElem_take, List.getD_eq_getElem?_getD, List.getElem?_eq_getElem (by omega)]
        rfl

set_option maxRecDepth 100000 in
theorem open_ru0 {fuel : Nat} {cs : List Value} {x : DataW H × List MemPlace} (h : DataW.trod enc Tryz.prog W 0 (fun _ => true) true fuel 62 cs = some x) :
    ∃ (r : Ru) (vv : Value), cs = [vv, .string r.kd, .string r.tm, .string r.pf] ∧ IntsIn 0 W vv r.vb ∧ RuSize r := by
  obtain ⟨xs, n, _, _, hl, hlen, hfld⟩ := DataW.trod_struct Tryz.underlying62 h
  obtain ⟨c0, c1, c2, c3, rfl⟩ := list4 (hl.trans Tryz.cells62)
  simp only [Array.size, List.length_cons, List.length_nil] at hlen
  have g0 : DataW.trod enc Tryz.prog W 0 (fun _ => true) true n 60 ((([c0, c1, c2, c3] : List Value).drop 0).take (Tryz.prog.cellsOf 60)) = xs[0]? := hfld 0 _ rfl
  have g1 : DataW.trod enc Tryz.prog W 0 (fun _ => true) true n 9 ((([c0, c1, c2, c3] : List Value).drop 1).take (Tryz.prog.cellsOf 9)) = xs[1]? := hfld 1 _ rfl
  have g2 : DataW.trod enc Tryz.prog W 0 (fun _ => true) true n 9 ((([c0, c1, c2, c3] : List Value).drop 2).take (Tryz.prog.cellsOf 9)) = xs[2]? := hfld 2 _ rfl
  have g3 : DataW.trod enc Tryz.prog W 0 (fun _ => true) true n 9 ((([c0, c1, c2, c3] : List Value).drop 3).take (Tryz.prog.cellsOf 9)) = xs[3]? := hfld 3 _ rfl
  simp only [Tryz.cells9, Tryz.cells60, List.drop_succ_cons, List.drop_zero, List.take_succ_cons, List.take_zero] at g0 g1 g2 g3
  rw [List.getElem?_eq_getElem (by omega)] at g0 g1 g2 g3
  obtain ⟨L, hL⟩ := open_vbs g0
  obtain ⟨k, e1, _, s1⟩ := DataW.trod_string Tryz.underlying9 g1
  obtain ⟨t, e2, _, s2⟩ := DataW.trod_string Tryz.underlying9 g2
  obtain ⟨p, e3, _, s3⟩ := DataW.trod_string Tryz.underlying9 g3
  simp only [List.cons.injEq, and_true] at e1 e2 e3
  subst e1 e2 e3
  exact ⟨⟨L, k, t, p⟩, c0, rfl, hL, ⟨s1, s2, s3⟩⟩

end
end Go.Proofs.YtfohnageehneoaaGreat

namespace Go.Proofs.YtfohnageehneoaaGreat
open Go.ChangeShapes Go.WideShapes Go.ChangeAt Go.RowKit Go.Deep
end Go.Proofs.YtfohnageehneoaaGreat

