
import Derived.Test.YtgnodlkdjpnmoaaOpX
import Derived.Test.YtgnodlkdjpnmoaaSVx
import Derived.ChangeSlices
namespace Go.Proofs.Ytgnodlkdjpnmoaa
open Go.ChangeShapes Go.WideShapes Go.ChangeAt Go.RowKit Go.Deep
theorem Try.own : ownKnob Try.prog.godebug = none := by kernel_rfl
theorem Try.laidOut : laidOutB Try.prog = true := by kernel_rfl
theorem Try.cells26 : Try.prog.cellsOf 26 = 13 := by kernel_rfl
theorem lstSv {l : List Value} (h : l.length = 13) : ∃ c0 c1 c2 c3 c4 c5 c6 c7 c8 c9 c10 c11 c12, l = [c0, c1, c2, c3, c4, c5, c6, c7, c8, c9, c10, c11, c12] := by
  match l, h with
  | [c0, c1, c2, c3, c4, c5, c6, c7, c8, c9, c10, c11, c12], _ => exact ⟨c0, c1, c2, c3, c4, c5, c6, c7, c8, c9, c10, c11, c12, rfl⟩
section
variable {H : Type} {enc : TypeId × Value → H} {W : World}
set_option maxRecDepth 100000 in
theorem open_Sv {fuel : Nat} {cs : List Value} {x : DataW H × List MemPlace} (h : DataW.trod enc Try.prog W 0 (fun _ => true) true fuel 26 cs = some x) :
    ∃ (x : Sv), cs = svL x ∧ SvSize x := by
  obtain ⟨xs, n, _, _, hl, hlen, hfld⟩ := DataW.trod_struct Try.underlying26 h
  obtain ⟨c0, c1, c2, c3, c4, c5, c6, c7, c8, c9, c10, c11, c12, rfl⟩ := lstSv (hl.trans Try.cells26)
  simp only [Array.size, List.length_cons, List.length_nil] at hlen
  have g0 : DataW.trod enc Try.prog W 0 (fun _ => true) true n 9 ((([c0, c1, c2, c3, c4, c5, c6, c7, c8, c9, c10, c11, c12] : List Value).drop 0).take (Try.prog.cellsOf 9)) = xs[0]? := hfld 0 _ rfl
  have g1 : DataW.trod enc Try.prog W 0 (fun _ => true) true n 3 ((([c0, c1, c2, c3, c4, c5, c6, c7, c8, c9, c10, c11, c12] : List Value).drop 1).take (Try.prog.cellsOf 3)) = xs[1]? := hfld 1 _ rfl
  have g2 : DataW.trod enc Try.prog W 0 (fun _ => true) true n 4 ((([c0, c1, c2, c3, c4, c5, c6, c7, c8, c9, c10, c11, c12] : List Value).drop 2).take (Try.prog.cellsOf 4)) = xs[2]? := hfld 2 _ rfl
  have g3 : DataW.trod enc Try.prog W 0 (fun _ => true) true n 3 ((([c0, c1, c2, c3, c4, c5, c6, c7, c8, c9, c10, c11, c12] : List Value).drop 3).take (Try.prog.cellsOf 3)) = xs[3]? := hfld 3 _ rfl
  have g4 : DataW.trod enc Try.prog W 0 (fun _ => true) true n 3 ((([c0, c1, c2, c3, c4, c5, c6, c7, c8, c9, c10, c11, c12] : List Value).drop 4).take (Try.prog.cellsOf 3)) = xs[4]? := hfld 4 _ rfl
  have g5 : DataW.trod enc Try.prog W 0 (fun _ => true) true n 3 ((([c0, c1, c2, c3, c4, c5, c6, c7, c8, c9, c10, c11, c12] : List Value).drop 5).take (Try.prog.cellsOf 3)) = xs[5]? := hfld 5 _ rfl
  have g6 : DataW.trod enc Try.prog W 0 (fun _ => true) true n 3 ((([c0, c1, c2, c3, c4, c5, c6, c7, c8, c9, c10, c11, c12] : List Value).drop 6).take (Try.prog.cellsOf 3)) = xs[6]? := hfld 6 _ rfl
  have g7 : DataW.trod enc Try.prog W 0 (fun _ => true) true n 3 ((([c0, c1, c2, c3, c4, c5, c6, c7, c8, c9, c10, c11, c12] : List Value).drop 7).take (Try.prog.cellsOf 3)) = xs[7]? := hfld 7 _ rfl
  have g8 : DataW.trod enc Try.prog W 0 (fun _ => true) true n 3 ((([c0, c1, c2, c3, c4, c5, c6, c7, c8, c9, c10, c11, c12] : List Value).drop 8).take (Try.prog.cellsOf 3)) = xs[8]? := hfld 8 _ rfl
  have g9 : DataW.trod enc Try.prog W 0 (fun _ => true) true n 3 ((([c0, c1, c2, c3, c4, c5, c6, c7, c8, c9, c10, c11, c12] : List Value).drop 9).take (Try.prog.cellsOf 3)) = xs[9]? := hfld 9 _ rfl
  have g10 : DataW.trod enc Try.prog W 0 (fun _ => true) true n 3 ((([c0, c1, c2, c3, c4, c5, c6, c7, c8, c9, c10, c11, c12] : List Value).drop 10).take (Try.prog.cellsOf 3)) = xs[10]? := hfld 10 _ rfl
  have g11 : DataW.trod enc Try.prog W 0 (fun _ => true) true n 3 ((([c0, c1, c2, c3, c4, c5, c6, c7, c8, c9, c10, c11, c12] : List Value).drop 11).take (Try.prog.cellsOf 3)) = xs[11]? := hfld 11 _ rfl
  have g12 : DataW.trod enc Try.prog W 0 (fun _ => true) true n 3 ((([c0, c1, c2, c3, c4, c5, c6, c7, c8, c9, c10, c11, c12] : List Value).drop 12).take (Try.prog.cellsOf 3)) = xs[12]? := hfld 12 _ rfl
  simp only [Try.cells4, Try.cells3, Try.cells9, List.drop_succ_cons, List.drop_zero, List.take_succ_cons, List.take_zero] at g0 g1 g2 g3 g4 g5 g6 g7 g8 g9 g10 g11 g12
  rw [List.getElem?_eq_getElem (by omega)] at g0 g1 g2 g3 g4 g5 g6 g7 g8 g9 g10 g11 g12
  obtain ⟨q0, e0, _, s0⟩ := DataW.trod_string Try.underlying9 g0
  obtain ⟨q1, e1, _, _⟩ := DataW.trod_int Try.underlying3 g1
  obtain ⟨q2, e2, _⟩ := DataW.trod_bool Try.underlying4 g2
  obtain ⟨q3, e3, _, _⟩ := DataW.trod_int Try.underlying3 g3
  obtain ⟨q4, e4, _, _⟩ := DataW.trod_int Try.underlying3 g4
  obtain ⟨q5, e5, _, _⟩ := DataW.trod_int Try.underlying3 g5
  obtain ⟨q6, e6, _, _⟩ := DataW.trod_int Try.underlying3 g6
  obtain ⟨q7, e7, _, _⟩ := DataW.trod_int Try.underlying3 g7
  obtain ⟨q8, e8, _, _⟩ := DataW.trod_int Try.underlying3 g8
  obtain ⟨q9, e9, _, _⟩ := DataW.trod_int Try.underlying3 g9
  obtain ⟨q10, e10, _, _⟩ := DataW.trod_int Try.underlying3 g10
  obtain ⟨q11, e11, _, _⟩ := DataW.trod_int Try.underlying3 g11
  obtain ⟨q12, e12, _, _⟩ := DataW.trod_int Try.underlying3 g12
  simp only [List.cons.injEq, and_true] at e0 e1 e2 e3 e4 e5 e6 e7 e8 e9 e10 e11 e12
  subst e0 e1 e2 e3 e4 e5 e6 e7 e8 e9 e10 e11 e12
  exact ⟨⟨q0, q1, q2, q3, q4, q5, q6, q7, q8, q9, q10, q11, q12⟩, rfl, ⟨s0⟩⟩
theorem open_service {r : Reach} {b0 : Nat} {v : Value} {d : DataW H} {p : List MemPlace} (hv : Value.okWide Try.prog W r b0 26 v) (h : DataW.Trod enc Try.prog W 0 (fun _ => true) true 26 v d p) :
    ∃ x : Sv, v = .agg (svL x).toArray ∧ SvSize x := by
  obtain ⟨cs, rfl, hsz⟩ := okWide_struct Try.underlying26 hv
  obtain ⟨fuel, hf⟩ := h
  obtain ⟨x, hx, hs⟩ := open_Sv hf
  exact ⟨x, by rw [← hx]; simp [Value.cells], hs⟩
end
end Go.Proofs.Ytgnodlkdjpnmoaa
