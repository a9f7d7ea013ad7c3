import Derived.Test.YtoklnkojacdciaaG06
import Derived.Test.YtoklnkojacdciaaG22
namespace Go.Proofs.Ytoklnkojacdciaa
open Go.RowKit Go.Deep

/-! impl.recSlotOk, impl.recSlotsOk, impl.recBallotsWithin -/
set_option maxRecDepth 20000 in
set_option maxHeartbeats 4000000 in
theorem slotI_any (x : Rs) (w : World) (hz : RsSize x) :
    Calls Try.prog 115 #[.agg #[.int .i64 x.ba, .string x.tx]] w fun e w' => e = .returned (.bool (slotB x)) ∧ Below w.heap.size w w' := by
  have hs := hz.s0
  unfold maxLen at hs
  clear hz
  have HI : Hid (slotB x = (inB 0 1000000 x.ba && (decide (x.tx.size ≤ 160) && !(x.ba == 0 && !x.tx.toList.isEmpty)))) := rfl
  have HO : ∀ o, Hid (Below w.heap.size w (w.alloc o)) := fun o => one_al w o
  cases h1 : inB 0 1000000 x.ba with
  | false =>
    have HE : Hid (slotB x = false) := by unfold Hid; rw [HI.out, h1]; rfl
    go_enter Try.func115, Try.ntmps115
    go_wp2_with (go_at_call 22; refine (within_any _ _ _ _).mono ?_; rintro e w' ⟨rfl, rfl⟩)
    go_ret
    exact ⟨ret_bool HE.out.symm, (HO _).out⟩
  | true =>
    have hr := h1
    simp only [inB, decide_eq_true_eq] at hr
    have HR := hide hr
    clear hr
    by_cases h2 : x.tx.size ≤ 160
    case neg =>
      have HE : Hid (slotB x = false) := by unfold Hid; rw [HI.out, h1, decide_eq_false h2]; rfl
      have d2 : decide ((x.tx.size : Int) ≤ 160) = false := by simp; omega
      go_enter Try.func115, Try.ntmps115
      go_wp2_with (go_at_call 22; refine (within_any _ _ _ _).mono ?_; rintro e w' ⟨rfl, rfl⟩)
      go_ret
      exact ⟨ret_bool HE.out.symm, (HO _).out⟩
    have d2 : decide ((x.tx.size : Int) ≤ 160) = true := by simp; omega
    have HE1 : Hid (slotB x = !(x.ba == 0 && !x.tx.toList.isEmpty)) := by unfold Hid; rw [HI.out, h1, decide_eq_true h2]; rfl
    by_cases h3 : 0 < x.ba
    · have d3 : decide ((0 : Int) < x.ba) = true := decide_eq_true h3
      have HE : Hid (slotB x = true) := by
        unfold Hid
        rw [HE1.out, show (x.ba == 0) = false by simp; omega]; rfl
      go_enter Try.func115, Try.ntmps115
      go_wp2_with (go_at_call 22; refine (within_any _ _ _ _).mono ?_; rintro e w' ⟨rfl, rfl⟩)
      go_ret
      exact ⟨ret_bool HE.out.symm, (HO _).out⟩
    · have d3 : decide ((0 : Int) < x.ba) = false := decide_eq_false h3
      have HE2 : Hid (slotB x = x.tx.toList.isEmpty) := by
        unfold Hid
        have := HR.out
        rw [HE1.out, show (x.ba == 0) = true by simp; omega]; simp
      cases h4 : x.tx.toList.isEmpty with
      | true =>
        have HE : Hid (slotB x = true) := by unfold Hid; rw [HE2.out, h4]
        go_enter Try.func115, Try.ntmps115
        go_wp2_with (go_at_call 22; refine (within_any _ _ _ _).mono ?_; rintro e w' ⟨rfl, rfl⟩)
        go_ret
        exact ⟨ret_bool HE.out.symm, (HO _).out⟩
      | false =>
        have HE : Hid (slotB x = false) := by unfold Hid; rw [HE2.out, h4]
        go_enter Try.func115, Try.ntmps115
        go_wp2_with (go_at_call 22; refine (within_any _ _ _ _).mono ?_; rintro e w' ⟨rfl, rfl⟩)
        go_ret
        exact ⟨ret_bool HE.out.symm, (HO _).out⟩

set_option maxRecDepth 20000 in
set_option maxHeartbeats 4000000 in
theorem slotsI_any (lo : Nat) (v : Value) (L : List Rs) (w : World) (hv : RssAt lo w v L) :
    Calls Try.prog 102 #[v] w fun e w' => e = .returned (.bool (slotsB L)) ∧ Below w.heap.size w w' := by
  have HV := hide hv
  have hm := hv.max
  unfold maxLen at hm
  obtain ⟨a, cap, rfl⟩ := hv.form
  clear hv
  have HI : Hid (slotsB L = (decide (L.length ≤ 120) && L.all slotB)) := rfl
  by_cases l0 : L.length ≤ 120
  case neg =>
    have HE : Hid (slotsB L = false) := by unfold Hid; rw [HI.out, decide_eq_false l0]; rfl
    have d0 : decide ((120 : Int) < (L.length : Int)) = true := by simp; omega
    go_enter Try.func102, Try.ntmps102
    go_wp2
    go_ret
    exact ⟨ret_bool HE.out.symm, Below.refl _ _⟩
  have d0 : decide ((120 : Int) < (L.length : Int)) = false := by simp; omega
  have HE1 : Hid (slotsB L = L.all slotB) := by unfold Hid; rw [HI.out, decide_eq_true l0]; rfl
  go_enter Try.func102, Try.ntmps102
  go_wp2
  clear d0
  go_loopw [10] (fun i wr => ∃ k : Nat, i = .int .i64 k ∧ k ≤ L.length ∧ Below w.heap.size w wr ∧ ∀ j (hj : j < L.length), j < k → slotB L[j] = true) (fun i _ => L.length - (intOf i).toNat)
  case atStart => exact ⟨0, rfl, by omega, Below.refl _ _, fun j _ h => by omega⟩
  case round =>
    obtain ⟨k, rfl, hk, hb, hall⟩ := hrel
    have HAL := hide hall
    have HB := hide hb
    clear hall hb
    by_cases hlt : k < L.length
    · obtain ⟨b, off, rfl, hbw, -, hc⟩ := HV.out.full' (by omega)
      obtain ⟨hsz, hcc⟩ := hc k hlt
      obtain ⟨x, hx⟩ : ∃ x, x = L[k] := ⟨_, rfl⟩
      rw [← hx] at hsz hcc
      have HX := hide hx
      have HZ := hide hsz
      obtain ⟨e0, e1⟩ := hcc.below HB.out hbw
      have i0 : (0 : Int) ≤ (k : Int) := by omega
      have i1 : (k : Int) < (L.length : Int) := by omega
      clear hc hcc hsz hx
      cases h1 : slotB x with
      | false =>
        go_wp2_with (go_at_call 115; refine (slotI_any x _ HZ.out).mono ?_; rw [h1]; rintro e w1 ⟨rfl, hb1⟩; have HB1 := hide hb1; clear hb1)
        go_ret
        exact ⟨ret_bool (by rw [HE1.out]; exact (all_no hlt (by rw [← HX.out]; exact h1)).symm), bt HB.out (bt (one_al _ _) HB1.out)⟩
      | true =>
        go_wp2_with (go_at_call 115; refine (slotI_any x _ HZ.out).mono ?_; rw [h1]; rintro e w1 ⟨rfl, hb1⟩; have HB1 := hide hb1; clear hb1)
        go_roundw
        case rel => exact ⟨k + 1, by go_num, by omega, bt HB.out (bt (one_al _ _) HB1.out), step_all HAL.out hlt (by rw [← HX.out]; exact h1)⟩
        case measure => simp [intOf]; omega
    · have HT : Hid (L.all slotB = true) := all_yes (fun i hi => HAL.out i hi (by omega))
      go_wp2
      go_ret
      exact ⟨ret_bool (by rw [HE1.out, HT.out]), HB.out⟩

def balB (lo hi : Int) (L : List Rs) : Bool := L.all (fun x => inB lo hi x.ba)
set_option maxRecDepth 20000 in
set_option maxHeartbeats 4000000 in
theorem balI_any (l : Nat) (v : Value) (L : List Rs) (lo hi : Int) (w : World) (hv : RssAt l w v L) :
    Calls Try.prog 113 #[v, .int .i64 lo, .int .i64 hi] w fun e w' => e = .returned (.bool (balB lo hi L)) ∧ Below w.heap.size w w' := by
  have HV := hide hv
  have hm := hv.max
  unfold maxLen at hm
  obtain ⟨a, cap, rfl⟩ := hv.form
  clear hv
  have HE1 : Hid (balB lo hi L = L.all (fun x => inB lo hi x.ba)) := rfl
  go_enter Try.func113, Try.ntmps113
  go_wp2
  go_loopw [11] (fun i wr => ∃ k : Nat, i = .int .i64 k ∧ k ≤ L.length ∧ Below w.heap.size w wr ∧ ∀ j (hj : j < L.length), j < k → inB lo hi L[j].ba = true) (fun i _ => L.length - (intOf i).toNat)
  case atStart => exact ⟨0, rfl, by omega, Below.refl _ _, fun j _ h => by omega⟩
  case round =>
    obtain ⟨k, rfl, hk, hb, hall⟩ := hrel
    have HAL := hide hall
    have HB := hide hb
    clear hall hb
    by_cases hlt : k < L.length
    · obtain ⟨b, off, rfl, hbw, -, hc⟩ := HV.out.full' (by omega)
      obtain ⟨hsz, hcc⟩ := hc k hlt
      obtain ⟨x, hx⟩ : ∃ x, x = L[k] := ⟨_, rfl⟩
      rw [← hx] at hsz hcc
      have HX := hide hx
      obtain ⟨e0, e1⟩ := hcc.below HB.out hbw
      have i0 : (0 : Int) ≤ (k : Int) := by omega
      have i1 : (k : Int) < (L.length : Int) := by omega
      clear hc hcc hsz hx
      cases h1 : inB lo hi x.ba with
      | false =>
        go_wp2_with (go_at_call 22; refine (within_any _ _ _ _).mono ?_; rw [h1]; rintro e w' ⟨rfl, rfl⟩)
        go_ret
        exact ⟨ret_bool (by rw [HE1.out]; exact (all_no hlt (by rw [← HX.out]; exact h1)).symm), bt HB.out (one_al _ _)⟩
      | true =>
        go_wp2_with (go_at_call 22; refine (within_any _ _ _ _).mono ?_; rw [h1]; rintro e w' ⟨rfl, rfl⟩)
        go_roundw
        case rel => exact ⟨k + 1, by go_num, by omega, bt HB.out (one_al _ _), step_all (f := fun x => inB lo hi x.ba) HAL.out hlt (by rw [← HX.out]; exact h1)⟩
        case measure => simp [intOf]; omega
    · have HT : Hid (L.all (fun x => inB lo hi x.ba) = true) := all_yes (fun i hi => HAL.out i hi (by omega))
      go_wp2
      go_ret
      exact ⟨ret_bool (by rw [HE1.out, HT.out]), HB.out⟩
end Go.Proofs.Ytoklnkojacdciaa
