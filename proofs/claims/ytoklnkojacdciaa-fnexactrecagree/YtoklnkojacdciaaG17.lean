import Derived.Test.YtoklnkojacdciaaG16
namespace Go.Proofs.Ytoklnkojacdciaa
open Go.RowKit Go.Deep

/-! spec.RecMessageOk -/
def msgB (M : Rm) (of : Int) : Bool := inB 1 9 M.kd && (inB 1 of M.fr && (inB 1 of M.tt && (inB 0 1000000 M.ba && (inB 0 120 M.ix && (inB 0 120 M.kn && (decide (M.tx.size ≤ 160) && (slotsB M.sl)))))))

set_option maxRecDepth 20000 in
set_option maxHeartbeats 8000000 in
theorem specMsg_any (lo : Nat) (cs : List Value) (M : Rm) (of : Int) (w : World) (h : RmC lo w cs M) :
    Calls Try.prog 37 #[.agg cs.toArray, .int .i64 of] w fun e w' => e = .returned (.bool (msgB M of)) ∧ Below w.heap.size w w' := by
  obtain ⟨a0, k0, rfl, h⟩ := h
  show Calls Try.prog 37 #[.agg #[.int .i64 M.kd, .int .i64 M.fr, .int .i64 M.tt, .int .i64 M.ba, .int .i64 M.ix, .int .i64 M.kn, .string M.tx, .slice a0 M.sl.length k0], .int .i64 of] w _
  have HK := hide h
  have hs := h.s0
  unfold maxLen at hs
  clear h
  have HI : Hid (msgB M of = (inB 1 9 M.kd && (inB 1 of M.fr && (inB 1 of M.tt && (inB 0 1000000 M.ba && (inB 0 120 M.ix && (inB 0 120 M.kn && (decide (M.tx.size ≤ 160) && (slotsB M.sl))))))))) := rfl
  have HO : ∀ o, Hid (Below w.heap.size w (w.alloc o)) := fun o => one_al w o
  go_enter Try.func37, Try.ntmps37
  cases h0 : inB 1 9 M.kd with
  | false =>
    have HE : Hid (msgB M of = false) := by unfold Hid; rw [HI.out, h0]; rfl
    go_wp2_with (first
      | (go_at_call 20; refine (in21_any _ _ _ _).mono ?_; rintro e w' ⟨rfl, rfl⟩)
      | (go_at_call 70; refine (slotsOk_any lo _ M.sl _ (HK.out.below (HO _).out).l0).mono ?_; rintro e w' ⟨rfl, rfl⟩))
    go_ret
    exact ⟨ret_bool HE.out.symm, (HO _).out⟩
  | true =>
  cases h1 : inB 1 of M.fr with
  | false =>
    have HE : Hid (msgB M of = false) := by unfold Hid; rw [HI.out, h0, h1]; rfl
    go_wp2_with (first
      | (go_at_call 20; refine (in21_any _ _ _ _).mono ?_; rintro e w' ⟨rfl, rfl⟩)
      | (go_at_call 70; refine (slotsOk_any lo _ M.sl _ (HK.out.below (HO _).out).l0).mono ?_; rintro e w' ⟨rfl, rfl⟩))
    go_ret
    exact ⟨ret_bool HE.out.symm, (HO _).out⟩
  | true =>
  cases h2 : inB 1 of M.tt with
  | false =>
    have HE : Hid (msgB M of = false) := by unfold Hid; rw [HI.out, h0, h1, h2]; rfl
    go_wp2_with (first
      | (go_at_call 20; refine (in21_any _ _ _ _).mono ?_; rintro e w' ⟨rfl, rfl⟩)
      | (go_at_call 70; refine (slotsOk_any lo _ M.sl _ (HK.out.below (HO _).out).l0).mono ?_; rintro e w' ⟨rfl, rfl⟩))
    go_ret
    exact ⟨ret_bool HE.out.symm, (HO _).out⟩
  | true =>
  cases h3 : inB 0 1000000 M.ba with
  | false =>
    have HE : Hid (msgB M of = false) := by unfold Hid; rw [HI.out, h0, h1, h2, h3]; rfl
    go_wp2_with (first
      | (go_at_call 20; refine (in21_any _ _ _ _).mono ?_; rintro e w' ⟨rfl, rfl⟩)
      | (go_at_call 70; refine (slotsOk_any lo _ M.sl _ (HK.out.below (HO _).out).l0).mono ?_; rintro e w' ⟨rfl, rfl⟩))
    go_ret
    exact ⟨ret_bool HE.out.symm, (HO _).out⟩
  | true =>
  cases h4 : inB 0 120 M.ix with
  | false =>
    have HE : Hid (msgB M of = false) := by unfold Hid; rw [HI.out, h0, h1, h2, h3, h4]; rfl
    go_wp2_with (first
      | (go_at_call 20; refine (in21_any _ _ _ _).mono ?_; rintro e w' ⟨rfl, rfl⟩)
      | (go_at_call 70; refine (slotsOk_any lo _ M.sl _ (HK.out.below (HO _).out).l0).mono ?_; rintro e w' ⟨rfl, rfl⟩))
    go_ret
    exact ⟨ret_bool HE.out.symm, (HO _).out⟩
  | true =>
  cases h5 : inB 0 120 M.kn with
  | false =>
    have HE : Hid (msgB M of = false) := by unfold Hid; rw [HI.out, h0, h1, h2, h3, h4, h5]; rfl
    go_wp2_with (first
      | (go_at_call 20; refine (in21_any _ _ _ _).mono ?_; rintro e w' ⟨rfl, rfl⟩)
      | (go_at_call 70; refine (slotsOk_any lo _ M.sl _ (HK.out.below (HO _).out).l0).mono ?_; rintro e w' ⟨rfl, rfl⟩))
    go_ret
    exact ⟨ret_bool HE.out.symm, (HO _).out⟩
  | true =>
  by_cases h6 : M.tx.size ≤ 160
  case neg =>
    have HE : Hid (msgB M of = false) := by unfold Hid; rw [HI.out, h0, h1, h2, h3, h4, h5, decide_eq_false h6]; rfl
    have dd : decide ((M.tx.size : Int) ≤ 160) = false := by simp; omega
    go_wp2_with (first
      | (go_at_call 20; refine (in21_any _ _ _ _).mono ?_; rintro e w' ⟨rfl, rfl⟩)
      | (go_at_call 70; refine (slotsOk_any lo _ M.sl _ (HK.out.below (HO _).out).l0).mono ?_; rintro e w' ⟨rfl, rfl⟩))
    go_ret
    exact ⟨ret_bool HE.out.symm, (HO _).out⟩
  have dd : decide ((M.tx.size : Int) ≤ 160) = true := by simp; omega
  have HE : Hid (msgB M of = slotsB M.sl) := by unfold Hid; rw [HI.out, h0, h1, h2, h3, h4, h5, decide_eq_true h6]; rfl
  go_wp2_with (first
    | (go_at_call 20; refine (in21_any _ _ _ _).mono ?_; rintro e w' ⟨rfl, rfl⟩)
    | (go_at_call 70; refine (slotsOk_any lo _ M.sl _ (HK.out.below (HO _).out).l0).mono ?_; rintro e w' ⟨rfl, rfl⟩))
  go_ret
  exact ⟨ret_bool HE.out.symm, (HO _).out⟩
end Go.Proofs.Ytoklnkojacdciaa
