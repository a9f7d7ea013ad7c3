import Derived.Test.YtoklnkojacdciaaG25
namespace Go.Proofs.Ytoklnkojacdciaa
open Go.RowKit Go.Deep

/-! impl.RecDiskOk -/
theorem rb {a b : Bool} (h : a = b) : Ending.returned (Value.bool a) = .returned (.bool b) := by rw [h]
theorem RssAt.take {lo : Nat} {w : World} {a : Option Addr} {cap n : Nat} {L : List Rs} (h : RssAt lo w (.slice a L.length cap) L) (k : Nat) (hn : n = k) (hk : k ≤ L.length) : RssAt lo w (.slice a n cap) (L.take k) := by
  subst hn
  by_cases h0 : n = 0
  · subst h0
    exact Or.inl ⟨a, cap, rfl, rfl⟩
  · have hl : (L.take n).length = n := by simp; omega
    obtain ⟨b, off, c2, h1, h3, h4, h6, h7⟩ := h.full (by intro e; rw [e] at hk; simp at hk; omega)
    have h5 : lo ≤ b := by
      obtain ⟨b', off', e, _, hb', _⟩ := h.full' (by omega)
      injection h1 with e1 e2 e3
      rw [e] at e1
      injection e1 with e1
      injection e1 with e1
      omega
    injection h1 with e1 e2 e3
    subst e3
    subst e1
    refine Or.inr ⟨b, off, cap, by rw [hl], by intro e; rw [e] at hl; simp at hl; omega, by omega, h4, h5, by omega, fun i hi => ?_⟩
    rw [List.getElem_take]
    exact h7 i (by omega)
theorem RssAt.cap {lo : Nat} {w : World} {a : Option Addr} {k : Nat} {L : List Rs} (h : RssAt lo w (.slice a L.length k) L) : L.length ≤ k := by
  rcases h with ⟨_, _, _, rfl⟩ | ⟨_, _, _, h1, _, _, _, _, h6, _⟩
  · exact Nat.zero_le _
  · injection h1 with e1 e2 e3
    omega
theorem dok_two {D : Rd} (hs : slotsB D.sl = true) (h3 : inB 0 (D.sl.length : Nat) D.kn = true) :
    (List.range D.sl.length).all (dokB D) = (balB 0 D.pr D.sl && balB 1 D.pr (D.sl.take D.kn.toNat)) := by
  have hb : ∀ i (h : i < D.sl.length), 0 ≤ D.sl[i].ba := fun i h => by
    unfold slotsB at hs
    rw [Bool.and_eq_true] at hs
    have := all_at hs.2 h
    unfold slotB inB at this
    simp at this
    omega
  simp only [inB, decide_eq_true_eq] at h3
  rw [Bool.eq_iff_iff]
  unfold balB
  rw [Bool.and_eq_true, List.all_eq_true, List.all_eq_true, List.all_eq_true]
  constructor
  · intro h
    have hd : ∀ i (hi : i < D.sl.length), D.sl[i].ba ≤ D.pr ∧ ((i : Int) < D.kn → D.sl[i].ba ≠ 0) := fun i hi => by
      have := h i (by simpa using hi)
      rw [dokB_at hi] at this
      simp at this
      exact ⟨this.1, fun _ => by have := this.2; omega⟩
    constructor
    · intro x hx
      obtain ⟨i, hi, rfl⟩ := List.getElem_of_mem hx
      have := hd i hi
      have := hb i hi
      simp only [inB, decide_eq_true_eq]
      omega
    · intro x hx
      obtain ⟨i, hi, rfl⟩ := List.getElem_of_mem hx
      rw [List.getElem_take]
      have hj : i < D.sl.length ∧ i < D.kn.toNat := by simp at hi; omega
      have h1 := hd i hj.1
      have h2 := hb i hj.1
      have h3 := h1.2 (by omega)
      simp only [inB, decide_eq_true_eq]
      omega
  · rintro ⟨ha, ht⟩ i hi
    have hi : i < D.sl.length := by simpa using hi
    rw [dokB_at hi]
    have h1 := ha _ (List.getElem_mem hi)
    simp only [inB, decide_eq_true_eq] at h1
    simp only [Bool.not_eq_true', Bool.or_eq_false_iff, decide_eq_false_iff_not, Bool.and_eq_false_iff, beq_eq_false_iff_ne]
    refine ⟨by omega, ?_⟩
    by_cases hk : (i : Int) < D.kn
    · right
      have hm : i < (D.sl.take D.kn.toNat).length := by simp; omega
      have h2 := ht _ (List.getElem_mem hm)
      rw [List.getElem_take] at h2
      simp only [inB, decide_eq_true_eq] at h2
      omega
    · left; exact hk
theorem diskB_two (D : Rd) : diskB D = (inB 0 1000000 D.pr && (slotsB D.sl && (inB 0 (D.sl.length : Nat) D.kn && (balB 0 D.pr D.sl && balB 1 D.pr (D.sl.take D.kn.toNat))))) := by
  unfold diskB
  cases h1 : inB 0 1000000 D.pr
  · rfl
  cases h2 : slotsB D.sl
  · rfl
  cases h3 : inB 0 (D.sl.length : Nat) D.kn
  · rfl
  rw [dok_two h2 h3]

set_option maxRecDepth 20000 in
set_option maxHeartbeats 8000000 in
theorem implDisk_any (lo : Nat) (cs : List Value) (D : Rd) (w : World) (h : RdC lo w cs D) :
    Calls Try.prog 98 #[.agg cs.toArray] w fun e w' => e = .returned (.bool (diskB D)) ∧ Below w.heap.size w w' := by
  obtain ⟨a0, k0, rfl, h⟩ := h
  show Calls Try.prog 98 #[.agg #[.int .i64 D.pr, .int .i64 D.kn, .slice a0 D.sl.length k0]] w _
  have HK := hide h
  have hm := h.l0.max
  unfold maxLen at hm
  have hcap : D.sl.length ≤ k0 := h.l0.cap
  clear h
  have HI := hide (diskB_two D)
  go_enter Try.func98, Try.ntmps98
  go_wp2_with fail
  generalize hWa : w.alloc _ = Wa
  have HB0 : Hid (Below w.heap.size w Wa) := by rw [← hWa]; exact one_al w _
  have HX : Hid (Box Wa w.heap.size #[.int .i64 D.pr, .int .i64 D.kn, .slice a0 D.sl.length k0]) := by rw [← hWa]; exact Box.new _ _ _ _ rfl
  clear hWa
  have xn : Nonempty (In (Up Wa)) := ⟨⟨Wa, Below.refl _ _⟩⟩
  have xs := fun (X : In (Up Wa)) => in_self X
  have x0 : ∀ X : In (Up Wa), X.w.cell? ⟨w.heap.size, 0, none⟩ = some (.int .i64 D.pr) := fun X => Up.cell X (by rw [HX.out.cell 0]; rfl)
  have x1 : ∀ X : In (Up Wa), X.w.cell? ⟨w.heap.size, 1, none⟩ = some (.int .i64 D.kn) := fun X => Up.cell X (by rw [HX.out.cell 1]; rfl)
  have x2 : ∀ X : In (Up Wa), X.w.cell? ⟨w.heap.size, 2, none⟩ = some (.slice a0 D.sl.length k0) := fun X => Up.cell X (by rw [HX.out.cell 2]; rfl)
  cases h1 : inB 0 1000000 D.pr with
  | false =>
    have HE : Hid (diskB D = false) := by unfold Hid; rw [HI.out, h1]; rfl
    refine wp_region_class (Up Wa) (by kernel_rfl) (by kernel_rfl) ((Below.refl _ _).drew) ?_
    repeat (go_big_quiet_step (first
    | (go_at_call_of 22 (Value.int .i64 D.pr); rename_i Y; exact (within_any _ _ _ _).mono fun _ _ h => ⟨h.1.trans (rb h1), Up.same Y h.2⟩)))
    refine wpQuiet_nil ?_
    intro wn hw
    obtain ⟨X, hX⟩ := hw
    have HWN : Hid (Below Wa.heap.size Wa wn) := by unfold Hid; rw [hX]; exact X.h
    clear hX X x0 x1 x2 xs xn
    go_wp2
    go_ret
    exact ⟨ret_bool HE.out.symm, bt HB0.out HWN.out⟩
  | true =>
  cases h2 : slotsB D.sl with
  | false =>
    have HE : Hid (diskB D = false) := by unfold Hid; rw [HI.out, h1, h2]; rfl
    refine wp_region_class (Up Wa) (by kernel_rfl) (by kernel_rfl) ((Below.refl _ _).drew) ?_
    repeat (go_big_quiet_step (first
    | (go_at_call_of 22 (Value.int .i64 D.pr); rename_i Y; exact (within_any _ _ _ _).mono fun _ _ h => ⟨h.1.trans (rb h1), Up.same Y h.2⟩)
    | (go_at_call 102; rename_i Y; exact (slotsI_any lo _ D.sl _ (HK.out.below (bt HB0.out Y.h)).l0).mono fun _ _ h => ⟨h.1.trans (rb h2), Up.next Y h.2⟩)))
    refine wpQuiet_nil ?_
    intro wn hw
    obtain ⟨X, hX⟩ := hw
    have HWN : Hid (Below Wa.heap.size Wa wn) := by unfold Hid; rw [hX]; exact X.h
    clear hX X x0 x1 x2 xs xn
    go_wp2
    go_ret
    exact ⟨ret_bool HE.out.symm, bt HB0.out HWN.out⟩
  | true =>
  cases h3 : inB 0 (D.sl.length : Nat) D.kn with
  | false =>
    have HE : Hid (diskB D = false) := by unfold Hid; rw [HI.out, h1, h2, h3]; rfl
    refine wp_region_class (Up Wa) (by kernel_rfl) (by kernel_rfl) ((Below.refl _ _).drew) ?_
    repeat (go_big_quiet_step (first
    | (go_at_call_of 22 (Value.int .i64 D.pr); rename_i Y; exact (within_any _ _ _ _).mono fun _ _ h => ⟨h.1.trans (rb h1), Up.same Y h.2⟩)
    | (go_at_call 102; rename_i Y; exact (slotsI_any lo _ D.sl _ (HK.out.below (bt HB0.out Y.h)).l0).mono fun _ _ h => ⟨h.1.trans (rb h2), Up.next Y h.2⟩)
    | (go_at_call_of 22 (Value.int .i64 D.kn); rename_i Y; exact (within_any _ _ _ _).mono fun _ _ h => ⟨h.1.trans (rb h3), Up.same Y h.2⟩)))
    refine wpQuiet_nil ?_
    intro wn hw
    obtain ⟨X, hX⟩ := hw
    have HWN : Hid (Below Wa.heap.size Wa wn) := by unfold Hid; rw [hX]; exact X.h
    clear hX X x0 x1 x2 xs xn
    go_wp2
    go_ret
    exact ⟨ret_bool HE.out.symm, bt HB0.out HWN.out⟩
  | true =>
  have hr := h3
  simp only [inB, decide_eq_true_eq] at hr
  have r1 : 0 ≤ D.kn := hr.1
  have r2 : D.kn ≤ (k0 : Int) := by omega
  have HT : Hid (RssAt lo w (.slice a0 D.kn.toNat k0) (D.sl.take D.kn.toNat)) := HK.out.l0.take _ rfl (by omega)
  clear hr
  cases h4 : balB 0 D.pr D.sl with
  | false =>
    have HE : Hid (diskB D = false) := by unfold Hid; rw [HI.out, h1, h2, h3, h4]; rfl
    refine wp_region_class (Up Wa) (by kernel_rfl) (by kernel_rfl) ((Below.refl _ _).drew) ?_
    repeat (go_big_quiet_step (first
    | (go_at_call_of 22 (Value.int .i64 D.pr); rename_i Y; exact (within_any _ _ _ _).mono fun _ _ h => ⟨h.1.trans (rb h1), Up.same Y h.2⟩)
    | (go_at_call 102; rename_i Y; exact (slotsI_any lo _ D.sl _ (HK.out.below (bt HB0.out Y.h)).l0).mono fun _ _ h => ⟨h.1.trans (rb h2), Up.next Y h.2⟩)
    | (go_at_call_of 22 (Value.int .i64 D.kn); rename_i Y; exact (within_any _ _ _ _).mono fun _ _ h => ⟨h.1.trans (rb h3), Up.same Y h.2⟩)
    | (go_at_call_of 113 (Value.int .i64 0); rename_i Y; exact (balI_any lo _ D.sl _ _ _ (HK.out.below (bt HB0.out Y.h)).l0).mono fun _ _ h => ⟨h.1.trans (rb h4), Up.next Y h.2⟩)))
    refine wpQuiet_nil ?_
    intro wn hw
    obtain ⟨X, hX⟩ := hw
    have HWN : Hid (Below Wa.heap.size Wa wn) := by unfold Hid; rw [hX]; exact X.h
    clear hX X x0 x1 x2 xs xn
    go_wp2
    go_ret
    exact ⟨ret_bool HE.out.symm, bt HB0.out HWN.out⟩
  | true =>
  cases h5 : balB 1 D.pr (D.sl.take D.kn.toNat) with
  | false =>
    have HE : Hid (diskB D = false) := by unfold Hid; rw [HI.out, h1, h2, h3, h4, h5]; rfl
    refine wp_region_class (Up Wa) (by kernel_rfl) (by kernel_rfl) ((Below.refl _ _).drew) ?_
    repeat (go_big_quiet_step (first
    | (go_at_call_of 22 (Value.int .i64 D.pr); rename_i Y; exact (within_any _ _ _ _).mono fun _ _ h => ⟨h.1.trans (rb h1), Up.same Y h.2⟩)
    | (go_at_call 102; rename_i Y; exact (slotsI_any lo _ D.sl _ (HK.out.below (bt HB0.out Y.h)).l0).mono fun _ _ h => ⟨h.1.trans (rb h2), Up.next Y h.2⟩)
    | (go_at_call_of 22 (Value.int .i64 D.kn); rename_i Y; exact (within_any _ _ _ _).mono fun _ _ h => ⟨h.1.trans (rb h3), Up.same Y h.2⟩)
    | (go_at_call_of 113 (Value.int .i64 0); rename_i Y; exact (balI_any lo _ D.sl _ _ _ (HK.out.below (bt HB0.out Y.h)).l0).mono fun _ _ h => ⟨h.1.trans (rb h4), Up.next Y h.2⟩)
    | (go_at_call 113; rename_i Y; exact (balI_any lo _ (D.sl.take D.kn.toNat) _ _ _ (HT.out.below (bt HB0.out Y.h))).mono fun _ _ h => ⟨h.1.trans (rb h5), Up.next Y h.2⟩)))
    refine wpQuiet_nil ?_
    intro wn hw
    obtain ⟨X, hX⟩ := hw
    have HWN : Hid (Below Wa.heap.size Wa wn) := by unfold Hid; rw [hX]; exact X.h
    clear hX X x0 x1 x2 xs xn
    go_wp2
    go_ret
    exact ⟨ret_bool HE.out.symm, bt HB0.out HWN.out⟩
  | true =>
    have HE : Hid (diskB D = true) := by unfold Hid; rw [HI.out, h1, h2, h3, h4, h5]; rfl
    refine wp_region_class (Up Wa) (by kernel_rfl) (by kernel_rfl) ((Below.refl _ _).drew) ?_
    repeat (go_big_quiet_step (first
    | (go_at_call_of 22 (Value.int .i64 D.pr); rename_i Y; exact (within_any _ _ _ _).mono fun _ _ h => ⟨h.1.trans (rb h1), Up.same Y h.2⟩)
    | (go_at_call 102; rename_i Y; exact (slotsI_any lo _ D.sl _ (HK.out.below (bt HB0.out Y.h)).l0).mono fun _ _ h => ⟨h.1.trans (rb h2), Up.next Y h.2⟩)
    | (go_at_call_of 22 (Value.int .i64 D.kn); rename_i Y; exact (within_any _ _ _ _).mono fun _ _ h => ⟨h.1.trans (rb h3), Up.same Y h.2⟩)
    | (go_at_call_of 113 (Value.int .i64 0); rename_i Y; exact (balI_any lo _ D.sl _ _ _ (HK.out.below (bt HB0.out Y.h)).l0).mono fun _ _ h => ⟨h.1.trans (rb h4), Up.next Y h.2⟩)
    | (go_at_call 113; rename_i Y; exact (balI_any lo _ (D.sl.take D.kn.toNat) _ _ _ (HT.out.below (bt HB0.out Y.h))).mono fun _ _ h => ⟨h.1.trans (rb h5), Up.next Y h.2⟩)))
    refine wpQuiet_nil ?_
    intro wn hw
    obtain ⟨X, hX⟩ := hw
    have HWN : Hid (Below Wa.heap.size Wa wn) := by unfold Hid; rw [hX]; exact X.h
    clear hX X x0 x1 x2 xs xn
    go_wp2
    go_ret
    exact ⟨ret_bool HE.out.symm, bt HB0.out HWN.out⟩
end Go.Proofs.Ytoklnkojacdciaa
