import Derived.Test.YtckdcejbojhlcaaGreatDoorS5
import Derived.Test.YtckdcejbojhlcaaGreatDoorO1
namespace Go.Proofs.YtckdcejbojhlcaaGreatDoor
open Go.RowKit Go.Deep

/-- what a check of the object itself tells -/
def okErr (b : Bool) : Value := if b = true then .nilIface else .iface 71 (.agg #[.int .i64 1, .int .i64 0])

set_option maxHeartbeats 1000000 in
theorem notOkUnless_any (b : Bool) (w : World) : Calls Tryz.prog 70 #[.bool b] w fun e w' => e = .returned (okErr b) ∧ Below w.heap.size w w' := by
  cases b with
  | true =>
    go_enter Tryz.func70, Tryz.ntmps70
    go_wp2
    go_ret
    exact ⟨rfl, Below.refl _ _⟩
  | false =>
    go_enter Tryz.func70, Tryz.ntmps70
    go_wp2
    go_ret
    exact ⟨rfl, Below.refl _ _⟩

section
variable (kd kind nm team : ByteArray) (vv hv fv : Value) (en : Bool) (ver : Int) (V Ho : List ByteArray) (Fs : List Fd) (w : World) (lo : Nat)

set_option maxRecDepth 20000 in
set_option maxHeartbeats 2000000 in
theorem checkNames_any (s2 : nm.size ≤ maxLen) (s3 : team.size ≤ maxLen) :
    Calls Tryz.prog 54 #[.agg #[.string kd, fv], .agg #[.string kind, .string nm, .string team, vv, .bool en, hv, .int .i64 ver]] w
      fun e w' => e = .returned (okErr (nameB nm && nameB team)) ∧ Below w.heap.size w w' := by
  have HW : ∀ o o', Hid (Below w.heap.size w ((w.alloc o).alloc o')) := fun o o' => ((Below.refl _ _).alloc (Nat.le_refl _) _).alloc (by simp) _
  cases hn : nameB nm with
  | false =>
    go_enter Tryz.func54, Tryz.ntmps54
    go_wp2_with (first
      | (go_at_call 48; refine (isName_any _ _ (by assumption)).mono ?_; rintro e w' ⟨rfl, rfl⟩)
      | (go_at_call 70; refine (notOkUnless_any _ _).mono ?_; rintro e w' ⟨rfl, hb⟩))
    go_ret
    exact ⟨rfl, (HW _ _).out.trans (hb.mono (HW _ _).out.size)⟩
  | true =>
    cases ht : nameB team with
    | false =>
      go_enter Tryz.func54, Tryz.ntmps54
      go_wp2_with (first
        | (go_at_call 48; refine (isName_any _ _ (by assumption)).mono ?_; rintro e w' ⟨rfl, rfl⟩)
        | (go_at_call 70; refine (notOkUnless_any _ _).mono ?_; rintro e w' ⟨rfl, hb⟩))
      go_ret
      exact ⟨rfl, (HW _ _).out.trans (hb.mono (HW _ _).out.size)⟩
    | true =>
      go_enter Tryz.func54, Tryz.ntmps54
      go_wp2_with (first
        | (go_at_call 48; refine (isName_any _ _ (by assumption)).mono ?_; rintro e w' ⟨rfl, rfl⟩)
        | (go_at_call 70; refine (notOkUnless_any _ _).mono ?_; rintro e w' ⟨rfl, hb⟩))
      go_ret
      exact ⟨rfl, (HW _ _).out.trans (hb.mono (HW _ _).out.size)⟩

set_option maxRecDepth 20000 in
set_option maxHeartbeats 2000000 in
theorem checkSize_any (a a1 : Option Addr) (cap cap1 n m : Nat) :
    Calls Tryz.prog 55 #[.agg #[.string kd, .slice a1 m cap1], .agg #[.string kind, .string nm, .string team, .slice a n cap, .bool en, hv, .int .i64 ver]] w
      fun e w' => e = .returned (okErr (decide (n = m))) ∧ Below w.heap.size w w' := by
  have HW : ∀ o o', Hid (Below w.heap.size w ((w.alloc o).alloc o')) := fun o o' => ((Below.refl _ _).alloc (Nat.le_refl _) _).alloc (by simp) _
  by_cases hnm : n = m
  · have hd : decide (n = m) = true := by simpa using hnm
    have hi : ((n : Int) == (m : Int)) = true := by rw [hnm]; simp
    rw [hd]
    clear hnm hd
    go_enter Tryz.func55, Tryz.ntmps55
    go_wp2_with (first
      | (go_at_call 70; refine (notOkUnless_any _ _).mono ?_; rintro e w' ⟨rfl, hb⟩))
    go_ret
    exact ⟨rfl, (HW _ _).out.trans (hb.mono (HW _ _).out.size)⟩
  · have hd : decide (n = m) = false := by simpa using hnm
    have hi : ((n : Int) == (m : Int)) = false := by simp; omega
    rw [hd]
    clear hnm hd
    go_enter Tryz.func55, Tryz.ntmps55
    go_wp2_with (first
      | (go_at_call 70; refine (notOkUnless_any _ _).mono ?_; rintro e w' ⟨rfl, hb⟩))
    go_ret
    exact ⟨rfl, (HW _ _).out.trans (hb.mono (HW _ _).out.size)⟩

set_option maxRecDepth 20000 in
set_option maxHeartbeats 2000000 in
theorem checkHolds_any (hH : StrsAt w hv Ho) :
    Calls Tryz.prog 56 #[.agg #[.string kd, fv], .agg #[.string kind, .string nm, .string team, vv, .bool en, hv, .int .i64 ver]] w
      fun e w' => e = .returned (okErr (decide (Ho.length ≤ 3) && ascB Ho)) ∧ Below w.heap.size w w' := by
  have HW : ∀ o o', Hid (Below w.heap.size w ((w.alloc o).alloc o')) := fun o o' => ((Below.refl _ _).alloc (Nat.le_refl _) _).alloc (by simp) _
  have HH := hide hH
  obtain ⟨a, cap, rfl⟩ : ∃ a cap, hv = .slice a Ho.length cap := by
    rcases hH with ⟨a, cap, h, rfl⟩ | ⟨b, off, cap, h, _⟩
    · exact ⟨_, _, h⟩
    · exact ⟨_, _, h⟩
  clear hH
  by_cases h3 : Ho.length ≤ 3
  · have hd : decide (Ho.length ≤ 3) = true := by simpa using h3
    have hi : (Ho.length : Int) ≤ 3 := by omega
    rw [hd, Bool.true_and]
    generalize hB : ascB Ho = B
    have HB := hide hB
    clear h3 hd hB
    go_enter Tryz.func56, Tryz.ntmps56
    go_wp2_with fail
    refine (ascNames_any _ Ho _ (HH.out.below (HW _ _).out)).mono ?_
    rintro e w1 ⟨rfl, hb1⟩
    have HB1 : Hid (Below w.heap.size w w1) := by rw [hb1]; exact (HW _ _).out
    rw [HB.out]
    subst hb1
    go_wp2_with fail
    refine (notOkUnless_any _ _).mono ?_
    rintro e w' ⟨rfl, hb⟩
    have HB2 : Hid (Below w.heap.size w w') := HB1.out.trans (hb.mono HB1.out.size)
    clear hb
    go_wp2
    go_ret
    exact ⟨rfl, HB2.out⟩
  · have hd : decide (Ho.length ≤ 3) = false := by simpa using h3
    have hi : ¬ (Ho.length : Int) ≤ 3 := by omega
    rw [hd, Bool.false_and]
    clear h3 hd
    go_enter Tryz.func56, Tryz.ntmps56
    go_wp2_with (first
      | (go_at_call 70; refine (notOkUnless_any _ _).mono ?_; rintro e w' ⟨rfl, hb⟩))
    go_ret
    exact ⟨rfl, (HW _ _).out.trans (hb.mono (HW _ _).out.size)⟩

set_option maxRecDepth 20000 in
set_option maxHeartbeats 2000000 in
theorem checkVersion_any :
    Calls Tryz.prog 57 #[.agg #[.string kd, fv], .agg #[.string kind, .string nm, .string team, vv, .bool en, hv, .int .i64 ver]] w
      fun e w' => e = .returned (okErr (inB 0 1000000 ver)) ∧ Below w.heap.size w w' := by
  have HW : ∀ o o', Hid (Below w.heap.size w ((w.alloc o).alloc o')) := fun o o' => ((Below.refl _ _).alloc (Nat.le_refl _) _).alloc (by simp) _
  by_cases h0 : 0 ≤ ver
  · by_cases h1 : ver ≤ 1000000
    · have hd : inB 0 1000000 ver = true := by simp [inB]; omega
      rw [hd]
      clear hd
      go_enter Tryz.func57, Tryz.ntmps57
      go_wp2_with (first
        | (go_at_call 70; refine (notOkUnless_any _ _).mono ?_; rintro e w' ⟨rfl, hb⟩))
      go_ret
      exact ⟨rfl, (HW _ _).out.trans (hb.mono (HW _ _).out.size)⟩
    · have hd : inB 0 1000000 ver = false := by simp [inB]; omega
      rw [hd]
      clear hd
      go_enter Tryz.func57, Tryz.ntmps57
      go_wp2_with (first
        | (go_at_call 70; refine (notOkUnless_any _ _).mono ?_; rintro e w' ⟨rfl, hb⟩))
      go_ret
      exact ⟨rfl, (HW _ _).out.trans (hb.mono (HW _ _).out.size)⟩
  · have hd : inB 0 1000000 ver = false := by simp [inB]; omega
    rw [hd]
    clear hd
    go_enter Tryz.func57, Tryz.ntmps57
    go_wp2_with (first
      | (go_at_call 70; refine (notOkUnless_any _ _).mono ?_; rintro e w' ⟨rfl, hb⟩))
    go_ret
    exact ⟨rfl, (HW _ _).out.trans (hb.mono (HW _ _).out.size)⟩
end
end Go.Proofs.YtckdcejbojhlcaaGreatDoor
