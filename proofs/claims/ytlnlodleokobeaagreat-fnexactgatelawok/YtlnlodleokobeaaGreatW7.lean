import Derived.Test.YtlnlodleokobeaaGreatW6
namespace Go.Proofs.YtlnlodleokobeaaGreat
open Go.RowKit Go.Deep

/-- which values fit, by the field's kind -/
def fitsB (kd le mo : Int) (L : List ByteArray) (s : ByteArray) : Bool :=
  if kd = 1 then decB s && inB le mo (decV s) else if kd = 2 then decide (0 < s.size) && hasB L s else if kd = 3 then textB le mo s else if kd = 4 then nameB s else false

theorem fits1 {le mo : Int} {L : List ByteArray} {s : ByteArray} : fitsB 1 le mo L s = (decB s && inB le mo (decV s)) := by simp [fitsB]
theorem fits2 {le mo : Int} {L : List ByteArray} {s : ByteArray} : fitsB 2 le mo L s = (decide (0 < s.size) && hasB L s) := by simp [fitsB]
theorem fits3 {le mo : Int} {L : List ByteArray} {s : ByteArray} : fitsB 3 le mo L s = textB le mo s := by simp [fitsB]
theorem fits4 {le mo : Int} {L : List ByteArray} {s : ByteArray} : fitsB 4 le mo L s = nameB s := by simp [fitsB]
theorem fits0 {kd le mo : Int} {L : List ByteArray} {s : ByteArray} (h1 : kd ≠ 1) (h2 : kd ≠ 2) (h3 : kd ≠ 3) (h4 : kd ≠ 4) : fitsB kd le mo L s = false := by simp [fitsB, h1, h2, h3, h4]

theorem decV_nonneg {s : ByteArray} (h : decB s = true) : 0 ≤ decV s := by
  have h3 : allB digit s = true := by unfold decB at h; simp at h; exact h.2
  have := valOf_take_pow s s.size (Nat.le_refl _) (by rw [List.take_of_length_le (by simp)]; exact h3)
  rw [decV_take (Nat.le_refl _)] at this
  exact this.1

theorem wrap64_byte (c : UInt8) : wrap64 (c.toNat : Int) = c.toNat := by
  have := c.toNat_lt
  unfold wrap64
  omega
theorem textB_bad {lo hi : Int} {s : ByteArray} (h : allB textByte s = false) : textB lo hi s = false := by unfold textB; simp [h]

section
variable (nm to df we : ByteArray) (le mo ro : Int) (mu fx : Bool) (wv : Value) (L : List ByteArray) (s : ByteArray) (w : World)

set_option maxHeartbeats 1000000 in
theorem specFits1 (hv : StrsAt w wv L) (hs : s.size ≤ maxLen) :
    Calls Tryz.prog 146 #[.agg #[.string nm, .int .i64 1, .int .i64 le, .int .i64 mo, wv, .string to, .int .i64 ro, .bool mu, .bool fx, .string df, .string we], .string s] w
      fun e w' => e = .returned (.bool (fitsB 1 le mo L s)) ∧ Below w.heap.size w w' := by
  obtain ⟨a, n, cap, rfl⟩ := hv.form
  clear hv
  have HW : ∀ o, Hid (Below w.heap.size w (w.alloc o)) := fun o => (Below.refl _ _).alloc (Nat.le_refl _) _
  rw [fits1]
  have hnum := fun u => l1Number_any s u hs
  by_cases hd : decB s = true
  · have h0 := decV_nonneg hd
    have HN := hide (numV_yes hd)
    go_enter Tryz.func146, Tryz.ntmps146
    go_wp2_with fail
    refine (hnum _).mono ?_
    rintro e w1 ⟨rfl, rfl⟩
    rw [HN.out]
    go_wp2_with fail
    refine (in_any _ _ _ _).mono ?_
    rintro e w1 ⟨rfl, rfl⟩
    go_wp2
    go_ret
    exact ⟨ret_bool (by rw [hd]; rfl), (HW _).out⟩
  · have hd' : decB s = false := by simpa using hd
    have HN := hide (numV_no hd')
    go_enter Tryz.func146, Tryz.ntmps146
    go_wp2_with fail
    refine (hnum _).mono ?_
    rintro e w1 ⟨rfl, rfl⟩
    rw [HN.out]
    go_wp2
    go_ret
    exact ⟨ret_bool (by rw [hd']; rfl), (HW _).out⟩

set_option maxHeartbeats 1000000 in
theorem specFits2 (hv : StrsAt w wv L) (_hs : s.size ≤ maxLen) :
    Calls Tryz.prog 146 #[.agg #[.string nm, .int .i64 2, .int .i64 le, .int .i64 mo, wv, .string to, .int .i64 ro, .bool mu, .bool fx, .string df, .string we], .string s] w
      fun e w' => e = .returned (.bool (fitsB 2 le mo L s)) ∧ Below w.heap.size w w' := by
  have HV := hide hv
  obtain ⟨a, n, cap, rfl⟩ := hv.form
  clear hv
  have HW : ∀ o, Hid (Below w.heap.size w (w.alloc o)) := fun o => (Below.refl _ _).alloc (Nat.le_refl _) _
  rw [fits2]
  by_cases hb0 : 0 < s.size
  · have he := empty_no hb0
    go_enter Tryz.func146, Tryz.ntmps146
    go_wp2_with fail
    refine (l1Has_any _ L _ _ (HV.out.below (HW _).out)).mono ?_
    rintro e w1 ⟨rfl, rfl⟩
    go_wp2
    go_ret
    exact ⟨ret_bool (by simp [hb0]), (HW _).out⟩
  · have he := empty_yes (s := s) (by omega)
    go_enter Tryz.func146, Tryz.ntmps146
    go_wp2
    go_ret
    exact ⟨ret_bool (by simp [hb0]), (HW _).out⟩

set_option maxHeartbeats 1000000 in
theorem specFits3 (hv : StrsAt w wv L) (hs : s.size ≤ maxLen) :
    Calls Tryz.prog 146 #[.agg #[.string nm, .int .i64 3, .int .i64 le, .int .i64 mo, wv, .string to, .int .i64 ro, .bool mu, .bool fx, .string df, .string we], .string s] w
      fun e w' => e = .returned (.bool (fitsB 3 le mo L s)) ∧ Below w.heap.size w w' := by
  obtain ⟨a, n, cap, rfl⟩ := hv.form
  clear hv
  have HW : ∀ o, Hid (Below w.heap.size w (w.alloc o)) := fun o => (Below.refl _ _).alloc (Nat.le_refl _) _
  rw [fits3]
  unfold maxLen at hs
  go_enter Tryz.func146, Tryz.ntmps146
  go_wp2_with fail
  go_loop [6] (fun i => ∃ k : Nat, k ≤ s.size ∧ i = .int .i64 k ∧ (s.data.toList.take k).all textByte = true) (fun i => s.size - (intOf i).toNat)
  case atStart => exact ⟨0, Nat.zero_le _, rfl, rfl⟩
  case round =>
    obtain ⟨k, hk, rfl, hall⟩ := hrel
    have HA : Hid ((s.data.toList.take k).all textByte = true) := hall
    clear hall
    by_cases hlt : k < s.size
    · have HS : Hid (textByte s[k] = true ↔ (33 ≤ (s[k].toNat : Int) ∧ (s[k].toNat : Int) ≤ 126)) := textByte_iff s[k]
      go_wp2_with fail
      simp only [wrap64_byte]
      refine (in_any _ _ _ _).mono ?_
      rintro e w1 ⟨rfl, rfl⟩
      by_cases hin : inB 33 126 (s[k].toNat : Int) = true
      · go_wp2
        go_round
        case rel => exact ⟨k + 1, by omega, by go_num, all_step HA.out hlt (HS.out.2 (by unfold inB at hin; simpa using hin))⟩
        case measure => simp [intOf]; omega
      · have hin' : inB 33 126 (s[k].toNat : Int) = false := by simpa using hin
        go_wp2
        go_ret
        exact ⟨ret_bool (textB_bad (all_stop hlt (Bool.eq_false_iff.2 fun h => by have := HS.out.1 h; unfold inB at hin; simp at hin; omega))).symm, (HW _).out⟩
    · have HE : Hid (allB textByte s = true) := all_end HA.out (by omega)
      by_cases hb0 : 0 < s.size
      · have he := empty_no hb0
        go_wp2_with fail
        refine (in_any _ _ _ _).mono ?_
        rintro e w1 ⟨rfl, rfl⟩
        go_wp2
        go_ret
        exact ⟨ret_bool (by unfold textB; rw [HE.out]; simp [hb0]), (HW _).out⟩
      · have he := empty_yes (s := s) (by omega)
        go_wp2
        go_ret
        exact ⟨ret_bool (textB_size (by omega)).symm, (HW _).out⟩

set_option maxHeartbeats 1000000 in
theorem specFits4 (hv : StrsAt w wv L) (hs : s.size ≤ maxLen) :
    Calls Tryz.prog 146 #[.agg #[.string nm, .int .i64 4, .int .i64 le, .int .i64 mo, wv, .string to, .int .i64 ro, .bool mu, .bool fx, .string df, .string we], .string s] w
      fun e w' => e = .returned (.bool (fitsB 4 le mo L s)) ∧ Below w.heap.size w w' := by
  obtain ⟨a, n, cap, rfl⟩ := hv.form
  clear hv
  have HW : ∀ o, Hid (Below w.heap.size w (w.alloc o)) := fun o => (Below.refl _ _).alloc (Nat.le_refl _) _
  rw [fits4]
  go_enter Tryz.func146, Tryz.ntmps146
  go_wp2_with fail
  refine (nameOk_any _ _ hs).mono ?_
  rintro e w1 ⟨rfl, rfl⟩
  go_wp2
  go_ret
  exact ⟨rfl, (HW _).out⟩

set_option maxHeartbeats 1000000 in
theorem specFits0 (kd : Int) (hv : StrsAt w wv L) (h1 : kd ≠ 1) (h2 : kd ≠ 2) (h3 : kd ≠ 3) (h4 : kd ≠ 4) :
    Calls Tryz.prog 146 #[.agg #[.string nm, .int .i64 kd, .int .i64 le, .int .i64 mo, wv, .string to, .int .i64 ro, .bool mu, .bool fx, .string df, .string we], .string s] w
      fun e w' => e = .returned (.bool (fitsB kd le mo L s)) ∧ Below w.heap.size w w' := by
  obtain ⟨a, n, cap, rfl⟩ := hv.form
  clear hv
  have HW : ∀ o, Hid (Below w.heap.size w (w.alloc o)) := fun o => (Below.refl _ _).alloc (Nat.le_refl _) _
  rw [fits0 h1 h2 h3 h4]
  have b1 : (kd == 1) = false := beq_eq_false_iff_ne.2 h1
  have b2 : (kd == 2) = false := beq_eq_false_iff_ne.2 h2
  have b3 : (kd == 3) = false := beq_eq_false_iff_ne.2 h3
  have b4 : (kd == 4) = false := beq_eq_false_iff_ne.2 h4
  clear h1 h2 h3 h4
  go_enter Tryz.func146, Tryz.ntmps146
  go_wp2
  go_ret
  exact ⟨rfl, (HW _).out⟩
end
end Go.Proofs.YtlnlodleokobeaaGreat

