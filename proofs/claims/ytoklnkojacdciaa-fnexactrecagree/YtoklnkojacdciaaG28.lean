import Derived.Test.YtoklnkojacdciaaG19
import Derived.Test.YtoklnkojacdciaaG27
namespace Go.Proofs.Ytoklnkojacdciaa
open Go.RowKit Go.Deep

set_option maxRecDepth 20000 in
set_option maxHeartbeats 8000000 in
theorem numbersI_any (lo : Nat) (v : Value) (L : List Int) (of : Int) (w : World) (hv : RisAt lo w v L) :
    Calls Try.prog 101 #[v, .int .i64 of] w fun e w' => e = .returned (.bool (numsB of L)) ∧ w' = w := by
  have HV := hide hv
  have hm := hv.max
  unfold maxLen at hm
  obtain ⟨a, cap, rfl⟩ := hv.form
  clear hv
  have HE1 : Hid (numsB of L = (List.range L.length).all (nokB of L)) := rfl
  go_enter Try.func101, Try.ntmps101
  go_wp2
  go_loop [9] (fun i => ∃ k : Nat, i = .int .i64 k ∧ k ≤ L.length ∧ ∀ j, j < k → nokB of L j = true) (fun i => L.length - (intOf i).toNat)
  case atStart => exact ⟨0, rfl, by omega, fun j h => by omega⟩
  case round =>
    obtain ⟨k, rfl, hk, hall⟩ := hrel
    have HAL := hide hall
    clear hall
    by_cases hlt : k < L.length
    · obtain ⟨b, off, rfl, hbw, -, hc⟩ := HV.out.full' (by omega)
      obtain ⟨x, hx⟩ : ∃ x, x = L[k] := ⟨_, rfl⟩
      obtain ⟨p, hp⟩ : ∃ p, p = L.getD (k - 1) 0 := ⟨_, rfl⟩
      have hgx : L.getD k 0 = x := by rw [hx, List.getD_eq_getElem?_getD, List.getElem?_eq_getElem hlt]; rfl
      have HDK : Hid (nokB of L k = (inB 1 of x && !(decide (0 < (k : Int)) && decide (x ≤ p)))) := by unfold Hid nokB; rw [hgx, ← hp]
      have s0 : w.cell? ⟨b, off + k, none⟩ = some (.int .i64 x) := by rw [hx]; exact (hc k hlt).2
      have HP : Hid (0 < k → w.cell? ⟨b, off + (k - 1), none⟩ = some (.int .i64 p)) := by
        unfold Hid
        intro hk0
        rw [hp, List.getD_eq_getElem?_getD, List.getElem?_eq_getElem (by omega)]
        exact (hc (k - 1) (by omega)).2
      have i0 : (0 : Int) ≤ (k : Int) := by omega
      have i1 : (k : Int) < (L.length : Int) := by omega
      clear hc hx hp hgx
      cases q1 : inB 1 of x with
      | false =>
        have HNo : Hid (numsB of L = false) := by unfold Hid; rw [HE1.out]; exact range_not hlt (by rw [HDK.out, q1]; rfl)
        go_wp2_with (go_at_call 22; refine (within_any _ _ _ _).mono ?_; rintro e w' ⟨rfl, rfl⟩)
        go_ret
        exact ⟨ret_bool HNo.out.symm, rfl⟩
      | true =>
        by_cases q2 : 0 < k
        · have d2 : decide (0 < (k : Int)) = true := by simp; omega
          have s1 := HP.out q2
          have j0 : (0 : Int) ≤ (k : Int) - 1 := by omega
          have j1 : (k : Int) - 1 < (L.length : Int) := by omega
          have jn : ((k : Int) - 1).toNat = k - 1 := by omega
          have HQ2 := hide q2
          have HD2 := hide d2
          cases q3 : decide (x ≤ p) with
          | true =>
            have HNo : Hid (numsB of L = false) := by unfold Hid; rw [HE1.out]; exact range_not hlt (by rw [HDK.out, q1, d2, q3]; rfl)
            go_wp2_with (go_at_call 22; refine (within_any _ _ _ _).mono ?_; rintro e w' ⟨rfl, rfl⟩)
            go_ret
            exact ⟨ret_bool HNo.out.symm, rfl⟩
          | false =>
            have HT : Hid (nokB of L k = true) := by unfold Hid; rw [HDK.out, q1, d2, q3]; rfl
            go_wp2_with (go_at_call 22; refine (within_any _ _ _ _).mono ?_; rintro e w' ⟨rfl, rfl⟩)
            go_round
            case rel => exact ⟨k + 1, by go_num, by omega, fun j hj => by
                          by_cases e : j = k
                          · rw [e]; exact HT.out
                          · exact HAL.out j (by omega)⟩
            case measure => simp [intOf]; omega
        · obtain rfl : k = 0 := by omega
          have HT : Hid (nokB of L 0 = true) := by unfold Hid; rw [HDK.out, q1]; rfl
          clear q2
          rw [Nat.add_zero] at s0
          go_wp2_with (go_at_call 22; refine (within_any _ _ _ _).mono ?_; rintro e w' ⟨rfl, rfl⟩)
          go_round
          case rel => exact ⟨0 + 1, by go_num, by omega, fun j hj => by
                        rw [show j = 0 by omega]; exact HT.out⟩
          case measure => simp [intOf]; omega
    · have HT : Hid (numsB of L = true) := range_all (fun i hi => HAL.out i (by omega))
      go_wp2
      go_ret
      exact ⟨ret_bool HT.out.symm, rfl⟩

/-- a text among the first n -/
def hasT (L : List ByteArray) (n : Nat) (x : ByteArray) : Bool := !(List.range n).all (fun k => !((txA L k).toList == x.toList))
set_option maxRecDepth 20000 in
set_option maxHeartbeats 4000000 in
theorem indexT_any (a : Option Addr) (n cap : Nat) (L : List ByteArray) (x : ByteArray) (w : World) (hn : n ≤ 1000000) (hc : ∀ j, j < n → ∃ b off, a = some ⟨b, off, none⟩ ∧ w.cell? ⟨b, off + j, none⟩ = some (.string (txA L j))) :
    Calls Try.prog 119 #[.slice a n cap, .string x] w fun e w' => (∃ r : Int, e = .returned (.int .i64 r) ∧ decide (0 ≤ r) = hasT L n x) ∧ w' = w := by
  have HC := hide hc
  clear hc
  go_enter Try.func119, Try.ntmps119
  go_wp2
  go_loop [8] (fun i => ∃ k : Nat, i = .int .i64 k ∧ k ≤ n ∧ ∀ j, j < k → (!((txA L j).toList == x.toList)) = true) (fun i => n - (intOf i).toNat)
  case atStart => exact ⟨0, rfl, by omega, fun j h => by omega⟩
  case round =>
    obtain ⟨k, rfl, hk, hall⟩ := hrel
    have HAL := hide hall
    clear hall
    by_cases hlt : k < n
    · obtain ⟨b, off, rfl, c0⟩ := HC.out k hlt
      have i0 : (0 : Int) ≤ (k : Int) := by omega
      have i1 : (k : Int) < (n : Int) := by omega
      obtain ⟨y, hy⟩ : ∃ y, y = txA L k := ⟨_, rfl⟩
      rw [← hy] at c0
      have HY := hide hy
      clear hy
      cases q : (x.toList == y.toList) with
      | true =>
        have HT : Hid (hasT L n x = true) := by
          unfold Hid hasT
          rw [range_not hlt (by rw [← HY.out]; have := eq_of_beq q; rw [this]; simp)]; rfl
        go_wp2
        go_ret
        exact ⟨⟨k, rfl, by rw [HT.out]; simp⟩, rfl⟩
      | false =>
        have HQ : Hid ((!(y.toList == x.toList)) = true) := by
          unfold Hid
          have : ¬ x.toList = y.toList := by intro e; rw [e] at q; simp at q
          simp only [Bool.not_eq_true', beq_eq_false_iff_ne]
          exact fun e => this e.symm
        go_wp2
        go_round
        case rel => exact ⟨k + 1, by go_num, by omega, fun j hj => by
                      by_cases e : j = k
                      · rw [e, ← HY.out]; exact HQ.out
                      · exact HAL.out j (by omega)⟩
        case measure => simp [intOf]; omega
    · have HT : Hid (hasT L n x = false) := by
        unfold Hid hasT
        rw [range_all (fun i hi => HAL.out i (by omega))]; rfl
      go_wp2
      go_ret
      exact ⟨⟨-1, rfl, by rw [HT.out]; rfl⟩, rfl⟩
set_option maxHeartbeats 4000000 in
theorem containsT_any (a : Option Addr) (n cap : Nat) (L : List ByteArray) (x : ByteArray) (w : World) (hn : n ≤ 1000000) (hc : ∀ j, j < n → ∃ b off, a = some ⟨b, off, none⟩ ∧ w.cell? ⟨b, off + j, none⟩ = some (.string (txA L j))) :
    Calls Try.prog 114 #[.slice a n cap, .string x] w fun e w' => e = .returned (.bool (hasT L n x)) ∧ w' = w := by
  have HC := hide hc
  clear hc
  go_enter Try.func114, Try.ntmps114
  go_wp2_with fail
  refine (indexT_any a n cap L x _ hn HC.out).mono ?_
  rintro e w' ⟨⟨r, rfl, hr⟩, rfl⟩
  have HR := hide hr
  clear hr
  go_wp2
  go_ret
  exact ⟨ret_bool HR.out, rfl⟩

set_option maxRecDepth 20000 in
set_option maxHeartbeats 8000000 in
theorem wishesI_any (lo : Nat) (v : Value) (L : List ByteArray) (w : World) (hv : RtsAt lo w v L) :
    Calls Try.prog 100 #[v] w fun e w' => e = .returned (.bool (wishB L)) ∧ w' = w := by
  have HV := hide hv
  have hm := hv.max
  unfold maxLen at hm
  obtain ⟨a, cap, rfl⟩ := hv.form
  clear hv
  have HI : Hid (wishB L = (decide (L.length ≤ 20) && (List.range L.length).all (wokB L))) := rfl
  by_cases l0 : L.length ≤ 20
  case neg =>
    have HE : Hid (wishB L = false) := by unfold Hid; rw [HI.out, decide_eq_false l0]; rfl
    have d0 : decide ((20 : Int) < (L.length : Int)) = true := by simp; omega
    go_enter Try.func100, Try.ntmps100
    go_wp2
    go_ret
    exact ⟨ret_bool HE.out.symm, rfl⟩
  have d0 : decide ((20 : Int) < (L.length : Int)) = false := by simp; omega
  have HE1 : Hid (wishB L = (List.range L.length).all (wokB L)) := by unfold Hid; rw [HI.out, decide_eq_true l0]; rfl
  go_enter Try.func100, Try.ntmps100
  go_wp2
  clear d0
  go_loop [10] (fun i => ∃ k : Nat, i = .int .i64 k ∧ k ≤ L.length ∧ ∀ j, j < k → wokB L j = true) (fun i => L.length - (intOf i).toNat)
  case atStart => exact ⟨0, rfl, by omega, fun j h => by omega⟩
  case round =>
    obtain ⟨k, rfl, hk, hall⟩ := hrel
    have HAL := hide hall
    clear hall
    by_cases hlt : k < L.length
    · have hcap : L.length ≤ cap := by
        rcases HV.out with ⟨_, _, _, e⟩ | ⟨_, _, _, h1, _, _, _, _, h6, _⟩
        · rw [e] at hlt; simp at hlt
        · injection h1 with e1 e2 e3
          omega
      obtain ⟨b, off, rfl, hbw, -, hc⟩ := HV.out.full' (by omega)
      have HCC : Hid (∀ j, j < L.length → w.cell? ⟨b, off + j, none⟩ = some (.string (txA L j))) := by
        intro j hj
        rw [(hc j hj).2]
        unfold txA
        rw [List.getD_eq_getElem?_getD, List.getElem?_eq_getElem hj]; rfl
      have hs := (hc k hlt).1
      unfold RtSize maxLen at hs
      obtain ⟨x, hx⟩ : ∃ x, x = txA L k := ⟨_, rfl⟩
      have hxs : x.size ≤ 9223372036854775807 := by
        rw [hx]; unfold txA; rw [List.getD_eq_getElem?_getD, List.getElem?_eq_getElem hlt]; simp only [Option.getD_some]; omega
      have c0 : w.cell? ⟨b, off + k, none⟩ = some (.string x) := by rw [hx]; exact HCC.out k hlt
      have HW : Hid (wokB L k = (inB 1 160 (x.size : Nat) && !hasT L k x)) := by
        unfold Hid wokB hasT
        rw [← hx, inB_eq, Bool.not_not, ← Bool.and_assoc]
        congr 1
        rw [Bool.eq_iff_iff]
        simp
        omega
      have i0 : (0 : Int) ≤ (k : Int) := by omega
      have i1 : (k : Int) < (L.length : Int) := by omega
      have i2 : (k : Int) ≤ (cap : Int) := by omega
      have HX := hide hx
      clear hc hs hx
      cases q1 : inB 1 160 (x.size : Nat) with
      | false =>
        have HNo : Hid (wishB L = false) := by unfold Hid; rw [HE1.out]; exact range_not hlt (by rw [HW.out, q1]; rfl)
        go_wp2_with (go_at_call 22; refine (within_any _ _ _ _).mono ?_; rintro e w' ⟨rfl, rfl⟩)
        go_ret
        exact ⟨ret_bool HNo.out.symm, rfl⟩
      | true =>
        cases q2 : hasT L k x with
        | true =>
          have HNo : Hid (wishB L = false) := by unfold Hid; rw [HE1.out]; exact range_not hlt (by rw [HW.out, q1, q2]; rfl)
          go_wp2_with (first
            | (go_at_call 22; refine (within_any _ _ _ _).mono ?_; rintro e w' ⟨rfl, rfl⟩)
            | (go_at_call 114; refine (containsT_any _ k cap L x _ (by omega) (fun j hj => ⟨b, off, by simp, HCC.out j (by omega)⟩)).mono ?_; rw [q2]; rintro e w' ⟨rfl, rfl⟩))
          go_ret
          exact ⟨ret_bool HNo.out.symm, rfl⟩
        | false =>
          have HT : Hid (wokB L k = true) := by unfold Hid; rw [HW.out, q1, q2]; rfl
          go_wp2_with (first
            | (go_at_call 22; refine (within_any _ _ _ _).mono ?_; rintro e w' ⟨rfl, rfl⟩)
            | (go_at_call 114; refine (containsT_any _ k cap L x _ (by omega) (fun j hj => ⟨b, off, by simp, HCC.out j (by omega)⟩)).mono ?_; rw [q2]; rintro e w' ⟨rfl, rfl⟩))
          go_round
          case rel => exact ⟨k + 1, by go_num, by omega, fun j hj => by
                        by_cases e : j = k
                        · rw [e]; exact HT.out
                        · exact HAL.out j (by omega)⟩
          case measure => simp [intOf]; omega
    · have HT : Hid (wishB L = true) := by unfold Hid; rw [HE1.out]; exact range_all (fun i hi => HAL.out i (by omega))
      go_wp2
      go_ret
      exact ⟨ret_bool HT.out.symm, rfl⟩
end Go.Proofs.Ytoklnkojacdciaa
