
import Derived.Test.YthecacabcgaenaaIV0
namespace Go.Proofs.Ythecacabcgaenaa
open Go.RowKit Go.Deep Go.Maps

set_option maxRecDepth 100000 in
set_option maxHeartbeats 4000000 in
theorem implValid_any (lo : Nat) (sv cv bv : Value) (B : Sb) (w : World) (h : SbAt lo w sv cv bv B) :
    Calls Try.prog 14 #[.agg #[.int .i64 B.now, sv, cv, bv]] w fun e w' => e = .returned (.bool (validB B)) ∧ Below w.heap.size w w' := by
  have HK := hide h
  obtain ⟨a0, k0, rfl⟩ := h.svs.form
  obtain ⟨a1, k1, rfl⟩ := h.cps.form
  obtain ⟨a2, k2, rfl⟩ := h.bes.form
  clear h
  go_enter Try.func14, Try.ntmps14
  go_wp2_with fail
  generalize hWa : w.alloc _ = Wa
  have HB0 : Hid (Below w.heap.size w Wa) := by rw [← hWa]; exact one_al w _
  clear hWa
  refine (validIndex_any lo _ _ _ B _ (HK.out.below HB0.out)).mono ?_
  rintro e w1 ⟨hb1, hh⟩
  have HB1 := hide (bt HB0.out hb1)
  clear hb1
  rcases hh with ⟨hv, rfl⟩ | ⟨hv, m, -, rfl⟩
  · have HV := hide hv
    clear hv
    go_wp2
    go_ret
    exact ⟨ret_bool HV.out.symm, bt HB1.out (one_al _ _)⟩
  · have HV := hide hv
    clear hv
    go_wp2
    go_ret
    exact ⟨ret_bool HV.out.symm, bt HB1.out (one_al _ _)⟩
end Go.Proofs.Ythecacabcgaenaa
