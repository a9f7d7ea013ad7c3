import Derived.Test.YtmaagbnjpdijnaaYOPB
import Derived.Test.YtmaagbnjpdijnaaYHO0
import Derived.Test.YtmaagbnjpdijnaaYTA
import Derived.Test.YtmaagbnjpdijnaaYTD
import Derived.Test.YtmaagbnjpdijnaaYBBL
namespace Go.Proofs.Ytmaagbnjpdijnaa
open Go.ChangeShapes Go.WideShapes Go.ChangeAt Go.RowKit Go.Deep
theorem open_Tms {H : Type} {enc : TypeId × Value → H} {W : World} {fuel : Nat} {c : Value} {x : DataW H × List MemPlace} (h : DataW.trod enc Try.prog W 0 (fun _ => true) true fuel 22 [c] = some x) : ∃ Ts, TmsAt 0 W c Ts := open_tms h
theorem Try.cells25 : Try.prog.cellsOf 25 = 2 := by kernel_rfl
theorem lstHo {l : List Value} (h : l.length = 2) : ∃ c0 c1, l = [c0, c1] := by
  match l, h with
  | [c0, c1], _ => exact ⟨c0, c1, rfl⟩
section
variable {H : Type} {enc : TypeId × Value → H} {W : World}
set_option maxRecDepth 100000 in
theorem open_Ho0 {fuel : Nat} {cs : List Value} {x : DataW H × List MemPlace} (h : DataW.trod enc Try.prog W 0 (fun _ => true) true fuel 25 cs = some x) : ∃ U, HoC 0 W cs U := by
  obtain ⟨xs, n, _, _, hl, hlen, hfld⟩ := DataW.trod_struct Try.underlying25 h
  obtain ⟨c0, c1, rfl⟩ := lstHo (hl.trans Try.cells25)
  simp only [Array.size, List.length_cons, List.length_nil] at hlen
  have g0 : DataW.trod enc Try.prog W 0 (fun _ => true) true n 22 ((([c0, c1] : List Value).drop 0).take (Try.prog.cellsOf 22)) = xs[0]? := hfld 0 _ rfl
  have g1 : DataW.trod enc Try.prog W 0 (fun _ => true) true n 23 ((([c0, c1] : List Value).drop 1).take (Try.prog.cellsOf 23)) = xs[1]? := hfld 1 _ rfl
  simp only [Try.cells23, Try.cells22, List.drop_succ_cons, List.drop_zero, List.take_succ_cons, List.take_zero] at g0 g1
  rw [List.getElem?_eq_getElem (by omega)] at g0 g1
  obtain ⟨q0, h0⟩ := open_Tms g0
  obtain ⟨a0, k0, rfl⟩ := h0.form
  obtain ⟨q1, h1⟩ := open_Grs g1
  obtain ⟨a1, k1, rfl⟩ := h1.form
  exact ⟨⟨q0, q1⟩, a0, k0, a1, k1, rfl, ⟨h0, h1⟩⟩
set_option maxRecDepth 100000 in
theorem open_Ho {r : Reach} {b0 : Nat} {v : Value} {d : DataW H} {p : List MemPlace} (hv : Value.okWide Try.prog W r b0 25 v) (h : DataW.Trod enc Try.prog W 0 (fun _ => true) true 25 v d p) : ∃ (cs : List Value) (U : Ho), v = .agg cs.toArray ∧ HoC 0 W cs U := by
  obtain ⟨cs, rfl, hsz⟩ := okWide_struct Try.underlying25 hv
  obtain ⟨fuel, hf⟩ := h
  obtain ⟨U, hU⟩ := open_Ho0 (cs := cs.toList) hf
  exact ⟨cs.toList, U, rfl, hU⟩
end
end Go.Proofs.Ytmaagbnjpdijnaa

