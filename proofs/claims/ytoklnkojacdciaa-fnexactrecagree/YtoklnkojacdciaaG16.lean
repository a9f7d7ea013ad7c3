import Derived.Test.YtoklnkojacdciaaG04
import Derived.Test.YtoklnkojacdciaaG10
namespace Go.Proofs.Ytoklnkojacdciaa
open Go.RowKit Go.Deep

/-! lists, one by one -/
theorem all_no {X : Type} {L : List X} {f : X → Bool} {k : Nat} (hk : k < L.length) (h : f L[k] = false) : L.all f = false := by
  rw [List.all_eq_false]
  exact ⟨L[k], List.getElem_mem hk, by simp [h]⟩
theorem all_yes {X : Type} {L : List X} {f : X → Bool} (h : ∀ i (h : i < L.length), f L[i] = true) : L.all f = true := by
  rw [List.all_eq_true]
  intro x hx
  obtain ⟨i, hi, rfl⟩ := List.getElem_of_mem hx
  exact h i hi
theorem all_at {X : Type} {L : List X} {f : X → Bool} (h : L.all f = true) {k : Nat} (hk : k < L.length) : f L[k] = true := List.all_eq_true.1 h _ (List.getElem_mem hk)
theorem step_all {X : Type} {L : List X} {f : X → Bool} {k : Nat} (hall : ∀ j (h : j < L.length), j < k → f L[j] = true) (hk : k < L.length) (h : f L[k] = true) : ∀ j (h : j < L.length), j < k + 1 → f L[j] = true := fun j hj hjk => by
  by_cases e : j = k
  · subst e; exact h
  · exact hall j hj (by omega)
theorem in21_any (n lo hi : Int) (w : World) :
    Calls Try.prog 20 #[.int .i64 n, .int .i64 lo, .int .i64 hi] w fun e w' => e = .returned (.bool (inB lo hi n)) ∧ w' = w := by
  rw [inB_eq]
  by_cases h1 : lo ≤ n
  · by_cases h2 : n ≤ hi
    all_goals
      go_enter Try.func20, Try.ntmps20
      go_wp2
      go_ret
      exact ⟨ret_bool (by simp [h1, h2]), rfl⟩
  · go_enter Try.func20, Try.ntmps20
    go_wp2
    go_ret
    refine ⟨ret_bool ?_, rfl⟩
    rw [Bool.eq_iff_iff]; simp; omega
/-- a slot is ok -/
def slotB (x : Rs) : Bool := inB 0 1000000 x.ba && (decide (x.tx.size ≤ 160) && !(x.ba == 0 && !x.tx.toList.isEmpty))
def slotsB (L : List Rs) : Bool := decide (L.length ≤ 120) && L.all slotB

set_option maxRecDepth 20000 in
set_option maxHeartbeats 4000000 in
theorem slotsOk_any (lo : Nat) (v : Value) (L : List Rs) (w : World) (hv : RssAt lo w v L) :
    Calls Try.prog 70 #[v] w fun e w' => e = .returned (.bool (slotsB L)) ∧ w' = w := by
  have HV := hide hv
  have hm := hv.max
  unfold maxLen at hm
  obtain ⟨a, cap, rfl⟩ := hv.form
  clear hv
  have HI : Hid (slotsB L = (decide (L.length ≤ 120) && L.all slotB)) := rfl
  by_cases l0 : L.length ≤ 120
  case neg =>
    have HE : Hid (slotsB L = false) := by unfold Hid; rw [HI.out, decide_eq_false l0]; rfl
    have d0 : decide ((120 : Int) < (L.length : Int)) = true := by simp; omega
    go_enter Try.func70, Try.ntmps70
    go_wp2
    go_ret
    exact ⟨ret_bool HE.out.symm, rfl⟩
  have d0 : decide ((120 : Int) < (L.length : Int)) = false := by simp; omega
  have HE1 : Hid (slotsB L = L.all slotB) := by unfold Hid; rw [HI.out, decide_eq_true l0]; rfl
  go_enter Try.func70, Try.ntmps70
  go_wp2
  clear d0
  go_loop [3] (fun i => ∃ k : Nat, i = .int .i64 k ∧ k ≤ L.length ∧ ∀ j (hj : j < L.length), j < k → slotB L[j] = true) (fun i => L.length - (intOf i).toNat)
  case atStart => exact ⟨0, rfl, by omega, fun j _ h => by omega⟩
  case round =>
    obtain ⟨k, rfl, hk, hall⟩ := hrel
    have HAL := hide hall
    clear hall
    by_cases hlt : k < L.length
    · obtain ⟨b, off, rfl, hbw, -, hc⟩ := HV.out.full' (by omega)
      obtain ⟨hsz, hcc⟩ := hc k hlt
      obtain ⟨x, hx⟩ : ∃ x, x = L[k] := ⟨_, rfl⟩
      rw [← hx] at hsz hcc
      have HX := hide hx
      have e0 := hcc.c0
      have e1 := hcc.c1
      have i0 : (0 : Int) ≤ (k : Int) := by omega
      have i1 : (k : Int) < (L.length : Int) := by omega
      have hs := hsz.s0
      unfold maxLen at hs
      clear hc hcc hsz hx
      cases h1 : inB 0 1000000 x.ba with
      | false =>
        have HN : Hid (slotB x = false) := by unfold Hid slotB; rw [h1]; rfl
        go_wp2_with (go_at_call 20; refine (in21_any _ _ _ _).mono ?_; rintro e w' ⟨rfl, rfl⟩)
        go_ret
        exact ⟨ret_bool (by rw [HE1.out]; exact (all_no hlt (by rw [← HX.out]; exact HN.out)).symm), rfl⟩
      | true =>
        by_cases h2 : x.tx.size ≤ 160
        case neg =>
          have HN : Hid (slotB x = false) := by unfold Hid slotB; rw [h1, decide_eq_false h2]; rfl
          have d2 : decide ((160 : Int) < (x.tx.size : Int)) = true := by simp; omega
          go_wp2_with (go_at_call 20; refine (in21_any _ _ _ _).mono ?_; rintro e w' ⟨rfl, rfl⟩)
          go_ret
          exact ⟨ret_bool (by rw [HE1.out]; exact (all_no hlt (by rw [← HX.out]; exact HN.out)).symm), rfl⟩
        have d2 : decide ((160 : Int) < (x.tx.size : Int)) = false := by simp; omega
        have HS : Hid (slotB x = !(x.ba == 0 && !x.tx.toList.isEmpty)) := by unfold Hid slotB; rw [h1, decide_eq_true h2]; rfl
        cases h3 : (x.ba == 0) with
        | false =>
          have HY : Hid (slotB x = true) := by unfold Hid; rw [HS.out, h3]; rfl
          go_wp2_with (go_at_call 20; refine (in21_any _ _ _ _).mono ?_; rintro e w' ⟨rfl, rfl⟩)
          go_round
          case rel => exact ⟨k + 1, by go_num, by omega, step_all HAL.out hlt (by rw [← HX.out]; exact HY.out)⟩
          case measure => simp [intOf]; omega
        | true =>
          cases h4 : x.tx.toList.isEmpty with
          | true =>
            have HY : Hid (slotB x = true) := by unfold Hid; rw [HS.out, h3, h4]; rfl
            go_wp2_with (go_at_call 20; refine (in21_any _ _ _ _).mono ?_; rintro e w' ⟨rfl, rfl⟩)
            go_round
            case rel => exact ⟨k + 1, by go_num, by omega, step_all HAL.out hlt (by rw [← HX.out]; exact HY.out)⟩
            case measure => simp [intOf]; omega
          | false =>
            have HN : Hid (slotB x = false) := by unfold Hid; rw [HS.out, h3, h4]; rfl
            go_wp2_with (go_at_call 20; refine (in21_any _ _ _ _).mono ?_; rintro e w' ⟨rfl, rfl⟩)
            go_ret
            exact ⟨ret_bool (by rw [HE1.out]; exact (all_no hlt (by rw [← HX.out]; exact HN.out)).symm), rfl⟩
    · have HT : Hid (L.all slotB = true) := all_yes (fun i hi => HAL.out i hi (by omega))
      go_wp2
      go_ret
      exact ⟨ret_bool (by rw [HE1.out, HT.out]), rfl⟩
end Go.Proofs.Ytoklnkojacdciaa
