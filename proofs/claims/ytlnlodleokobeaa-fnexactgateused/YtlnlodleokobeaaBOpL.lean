import Derived.Test.YtlnlodleokobeaaBOpX
import Derived.Test.YtlnlodleokobeaaBOpT
import Derived.Test.YtlnlodleokobeaaBL1
import Derived.Test.YtlnlodleokobeaaBS13
import Derived.Test.YtlnlodleokobeaaBG2
import Derived.Test.YtlnlodleokobeaaBK1
import Derived.Test.YtlnlodleokobeaaBP1
import Derived.Test.YtlnlodleokobeaaBNA
import Derived.Test.YtlnlodleokobeaaBSA
import Derived.Test.YtlnlodleokobeaaBT1
import Derived.Test.YtlnlodleokobeaaBM2
namespace Go.Proofs.Ytlnlodleokobeaa
open Go.ChangeShapes Go.WideShapes Go.ChangeAt Go.RowKit Go.Deep

theorem Try.cells26 : Try.prog.cellsOf 26 = 3 := by kernel_rfl
theorem Try.cells22 : Try.prog.cellsOf 22 = 1 := by kernel_rfl
theorem Try.cells23 : Try.prog.cellsOf 23 = 1 := by kernel_rfl
theorem Try.cells24 : Try.prog.cellsOf 24 = 1 := by kernel_rfl
theorem array3 {cs : Array Value} (h : cs.size = 3) : ∃ c0 c1 c2, cs = #[c0, c1, c2] := by
  obtain ⟨l⟩ := cs
  match l, h with
  | [c0, c1, c2], _ => exact ⟨c0, c1, c2, rfl⟩

section
variable {H : Type} {enc : TypeId × Value → H} {W : World}

set_option maxRecDepth 100000 in
theorem open_law {r : Reach} {b0 : Nat} {v : Value} {d : DataW H} {p : List MemPlace} (hv : Value.okWide Try.prog W r b0 26 v) (h : DataW.Trod enc Try.prog W 0 (fun _ => true) true 26 v d p) :
    ∃ (sv mv tv : Value) (Ss : List Sh) (Ms : List Md) (Ts : List Tm), v = .agg #[sv, mv, tv] ∧ LawAt 0 W sv mv tv Ss Ms Ts := by
  obtain ⟨cs, rfl, hsz⟩ := okWide_struct Try.underlying26 hv
  obtain ⟨c0, c1, c2, rfl⟩ := array3 (hsz.trans Try.cells26)
  obtain ⟨fuel, hf⟩ := h
  obtain ⟨xs, n, _, _, _, hlen, hfld⟩ := DataW.trod_struct Try.underlying26 hf
  simp only [Array.size, List.length_cons, List.length_nil] at hlen
  have g0 : DataW.trod enc Try.prog W 0 (fun _ => true) true n 22 ((([c0, c1, c2] : List Value).drop 0).take (Try.prog.cellsOf 22)) = xs[0]? := hfld 0 _ rfl
  have g1 : DataW.trod enc Try.prog W 0 (fun _ => true) true n 23 ((([c0, c1, c2] : List Value).drop 1).take (Try.prog.cellsOf 23)) = xs[1]? := hfld 1 _ rfl
  have g2 : DataW.trod enc Try.prog W 0 (fun _ => true) true n 24 ((([c0, c1, c2] : List Value).drop 2).take (Try.prog.cellsOf 24)) = xs[2]? := hfld 2 _ rfl
  simp only [Try.cells22, Try.cells23, Try.cells24, List.drop_succ_cons, List.drop_zero, List.take_succ_cons, List.take_zero] at g0 g1 g2
  rw [List.getElem?_eq_getElem (by omega)] at g0 g1 g2
  obtain ⟨Ss, hS⟩ := open_shs g0
  obtain ⟨Ms, hM⟩ := open_mds g1
  obtain ⟨Ts, hT⟩ := open_tms g2
  exact ⟨c0, c1, c2, Ss, Ms, Ts, rfl, hS, hM, hT⟩
end
end Go.Proofs.Ytlnlodleokobeaa

