import Derived.Test.YtoklnkojacdciaaG17
import Derived.Test.YtoklnkojacdciaaG25
namespace Go.Proofs.Ytoklnkojacdciaa
open Go.RowKit Go.Deep

/-! impl.RecMessageOk -/
set_option maxRecDepth 20000 in
set_option maxHeartbeats 8000000 in
theorem implMsg_any (lo : Nat) (cs : List Value) (M : Rm) (of : Int) (w : World) (h : RmC lo w cs M) :
    Calls Try.prog 77 #[.agg cs.toArray, .int .i64 of] w fun e w' => e = .returned (.bool (msgB M of)) ∧ Below w.heap.size w w' := by
  obtain ⟨a0, k0, rfl, h⟩ := h
  show Calls Try.prog 77 #[.agg #[.int .i64 M.kd, .int .i64 M.fr, .int .i64 M.tt, .int .i64 M.ba, .int .i64 M.ix, .int .i64 M.kn, .string M.tx, .slice a0 M.sl.length k0], .int .i64 of] w _
  have HK := hide h
  have hs := h.s0
  unfold maxLen at hs
  clear h
  have HI : Hid (msgB M of = (inB 1 9 M.kd && (inB 1 of M.fr && (inB 1 of M.tt && (inB 0 1000000 M.ba && (inB 0 120 M.ix && (inB 0 120 M.kn && (decide ((M.tx.size : Int) ≤ 160) && (slotsB M.sl))))))))) := by
    unfold Hid msgB
    have : decide (M.tx.size ≤ 160) = decide ((M.tx.size : Int) ≤ 160) := by rw [decide_eq_decide]; omega
    rw [this]
  have HO : ∀ o, Hid (Below w.heap.size w (w.alloc o)) := fun o => one_al w o
  go_enter Try.func77, Try.ntmps77
  cases h0 : inB 1 9 M.kd with
  | false =>
    have HE : Hid (msgB M of = false) := by unfold Hid; rw [HI.out, h0]; rfl
    go_wp2_with (first
      | (go_at_call 22; refine (within_any _ _ _ _).mono ?_; rintro e w' ⟨rfl, rfl⟩)
      | (go_at_call 102; refine (slotsI_any lo _ M.sl _ (HK.out.below (HO _).out).l0).mono ?_; rintro e w1 ⟨rfl, hb1⟩; have HB1 := hide hb1; clear hb1))
    go_ret
    exact ⟨ret_bool HE.out.symm, (HO _).out⟩
  | true =>
  cases h1 : inB 1 of M.fr with
  | false =>
    have HE : Hid (msgB M of = false) := by unfold Hid; rw [HI.out, h0, h1]; rfl
    go_wp2_with (first
      | (go_at_call 22; refine (within_any _ _ _ _).mono ?_; rintro e w' ⟨rfl, rfl⟩)
      | (go_at_call 102; refine (slotsI_any lo _ M.sl _ (HK.out.below (HO _).out).l0).mono ?_; rintro e w1 ⟨rfl, hb1⟩; have HB1 := hide hb1; clear hb1))
    go_ret
    exact ⟨ret_bool HE.out.symm, (HO _).out⟩
  | true =>
  cases h2 : inB 1 of M.tt with
  | false =>
    have HE : Hid (msgB M of = false) := by unfold Hid; rw [HI.out, h0, h1, h2]; rfl
    go_wp2_with (first
      | (go_at_call 22; refine (within_any _ _ _ _).mono ?_; rintro e w' ⟨rfl, rfl⟩)
      | (go_at_call 102; refine (slotsI_any lo _ M.sl _ (HK.out.below (HO _).out).l0).mono ?_; rintro e w1 ⟨rfl, hb1⟩; have HB1 := hide hb1; clear hb1))
    go_ret
    exact ⟨ret_bool HE.out.symm, (HO _).out⟩
  | true =>
  cases h3 : inB 0 1000000 M.ba with
  | false =>
    have HE : Hid (msgB M of = false) := by unfold Hid; rw [HI.out, h0, h1, h2, h3]; rfl
    go_wp2_with (first
      | (go_at_call 22; refine (within_any _ _ _ _).mono ?_; rintro e w' ⟨rfl, rfl⟩)
      | (go_at_call 102; refine (slotsI_any lo _ M.sl _ (HK.out.below (HO _).out).l0).mono ?_; rintro e w1 ⟨rfl, hb1⟩; have HB1 := hide hb1; clear hb1))
    go_ret
    exact ⟨ret_bool HE.out.symm, (HO _).out⟩
  | true =>
  cases h4 : inB 0 120 M.ix with
  | false =>
    have HE : Hid (msgB M of = false) := by unfold Hid; rw [HI.out, h0, h1, h2, h3, h4]; rfl
    go_wp2_with (first
      | (go_at_call 22; refine (within_any _ _ _ _).mono ?_; rintro e w' ⟨rfl, rfl⟩)
      | (go_at_call 102; refine (slotsI_any lo _ M.sl _ (HK.out.below (HO _).out).l0).mono ?_; rintro e w1 ⟨rfl, hb1⟩; have HB1 := hide hb1; clear hb1))
    go_ret
    exact ⟨ret_bool HE.out.symm, (HO _).out⟩
  | true =>
  cases h5 : inB 0 120 M.kn with
  | false =>
    have HE : Hid (msgB M of = false) := by unfold Hid; rw [HI.out, h0, h1, h2, h3, h4, h5]; rfl
    go_wp2_with (first
      | (go_at_call 22; refine (within_any _ _ _ _).mono ?_; rintro e w' ⟨rfl, rfl⟩)
      | (go_at_call 102; refine (slotsI_any lo _ M.sl _ (HK.out.below (HO _).out).l0).mono ?_; rintro e w1 ⟨rfl, hb1⟩; have HB1 := hide hb1; clear hb1))
    go_ret
    exact ⟨ret_bool HE.out.symm, (HO _).out⟩
  | true =>
  cases h6 : decide ((M.tx.size : Int) ≤ 160) with
  | false =>
    have HE : Hid (msgB M of = false) := by unfold Hid; rw [HI.out, h0, h1, h2, h3, h4, h5, h6]; rfl
    go_wp2_with (first
      | (go_at_call 22; refine (within_any _ _ _ _).mono ?_; rintro e w' ⟨rfl, rfl⟩)
      | (go_at_call 102; refine (slotsI_any lo _ M.sl _ (HK.out.below (HO _).out).l0).mono ?_; rintro e w1 ⟨rfl, hb1⟩; have HB1 := hide hb1; clear hb1))
    go_ret
    exact ⟨ret_bool HE.out.symm, (HO _).out⟩
  | true =>
  have HE : Hid (msgB M of = slotsB M.sl) := by unfold Hid; rw [HI.out, h0, h1, h2, h3, h4, h5, h6]; rfl
  go_wp2_with (first
    | (go_at_call 22; refine (within_any _ _ _ _).mono ?_; rintro e w' ⟨rfl, rfl⟩)
    | (go_at_call 102; refine (slotsI_any lo _ M.sl _ (HK.out.below (HO _).out).l0).mono ?_; rintro e w1 ⟨rfl, hb1⟩; have HB1 := hide hb1; clear hb1))
  go_ret
  exact ⟨ret_bool HE.out.symm, bt (HO _).out HB1.out⟩
end Go.Proofs.Ytoklnkojacdciaa
