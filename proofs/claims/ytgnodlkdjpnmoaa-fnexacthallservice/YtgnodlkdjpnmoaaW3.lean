import Derived.Test.YtgnodlkdjpnmoaaW2
namespace Go.Proofs.Ytgnodlkdjpnmoaa
open Go.RowKit

theorem empty_yes {s : ByteArray} (h : s.size = 0) : s.toList.isEmpty = true := by
  rw [ByteArray.toList_eq, List.isEmpty_iff_length_eq_zero]; simpa using h
theorem empty_no {s : ByteArray} (h : 0 < s.size) : s.toList.isEmpty = false := by
  rw [ByteArray.toList_eq, List.isEmpty_eq_false_iff_exists_mem]
  exact ⟨s[0], by simp only [Array.mem_toList_iff]; exact Array.getElem_mem h⟩

def decR (s : ByteArray) : Int := if decB s = true then decV s else 0
theorem decR_no {s : ByteArray} (h : decB s = false) : decR s = 0 := by unfold decR; simp [h]
theorem decR_yes {s : ByteArray} (h : decB s = true) : decR s = decV s := by unfold decR; simp [h]
theorem ret_dec {a c : Int} {b d : Bool} (h : a = c) (h' : b = d) : Ending.returned (.tuple #[.int .i64 a, .bool b]) = .returned (.tuple #[.int .i64 c, .bool d]) := by rw [h, h']

set_option maxHeartbeats 1000000 in
theorem gateDecimal_any (s : ByteArray) (w : World) (hs : s.size ≤ maxLen) :
    Calls Try.prog 18 #[.string s] w fun e w' => e = .returned (.tuple #[.int .i64 (decR s), .bool (decB s)]) ∧ w' = w := by
  unfold maxLen at hs
  by_cases hb0 : 0 < s.size
  · have he := empty_no hb0
    by_cases hb2 : s.size ≤ 7
    · have h1 : Hid (inB 1 7 s.size = true) := by unfold Hid inB; simp; omega
      by_cases hz : ((s[0].toNat : Int) == 48) = true
      · by_cases hb3 : 1 < s.size
        · have HB : Hid (decB s = false) := by unfold Hid decB; rw [headOk_bad s hb0 hb3 hz]; simp
          go_enter Try.func18, Try.ntmps18
          go_wp2
          go_ret2
          exact ⟨ret_dec (decR_no HB.out).symm HB.out.symm, rfl⟩
        · have HD : Hid (decB s = allB digit s) := decB_of h1.out (headOk_one s (by omega))
          clear h1
          go_enter Try.func18, Try.ntmps18
          go_wp2
          go_loop [4, 25] (fun n i => ∃ k : Nat, k ≤ s.size ∧ i = .int .i64 k ∧ n = .int .i64 (valOf (s.data.toList.take k)) ∧ (s.data.toList.take k).all digit = true) (fun _ i => s.size - (intOf i).toNat)
          case atStart => exact ⟨0, Nat.zero_le _, rfl, rfl, rfl⟩
          case round =>
            obtain ⟨k, hk, rfl, rfl, hall⟩ := hrel
            obtain ⟨v0, v1⟩ := valOf_take_bd s k hk hb2 hall
            have HA : Hid ((s.data.toList.take k).all digit = true) := hall
            clear hall
            by_cases hlt : k < s.size
            · have HV : Hid (valOf (s.data.toList.take (k + 1)) = 10 * valOf (s.data.toList.take k) + ((s[k].toNat : Int) - 48)) := valOf_take_succ s k hlt
              have HS : Hid (digit s[k] = true ↔ (48 ≤ (s[k].toNat : Int) ∧ (s[k].toNat : Int) ≤ 57)) := digit_iff s[k]
              go_wp2
              all_goals first
                | (go_round
                   case rel => exact ⟨k + 1, by omega, by go_num, by rw [HV.out], all_step HA.out hlt (HS.out.2 (by omega))⟩
                   case measure => simp [intOf]; omega)
                | (go_ret2
                   have HN : decB s = false := by rw [HD.out]; exact all_stop hlt (Bool.eq_false_iff.2 fun h => by have := HS.out.1 h; omega)
                   exact ⟨ret_dec (decR_no HN).symm HN.symm, rfl⟩)
            · go_wp2
              go_ret2
              have HN : decB s = true := by rw [HD.out]; exact all_end HA.out (by omega)
              exact ⟨ret_dec (by rw [decR_yes HN, ← decV_take (k := k) (by omega)]) HN.symm, rfl⟩
      · have hz' : ((s[0].toNat : Int) == 48) = false := by simpa using hz
        have HD : Hid (decB s = allB digit s) := decB_of h1.out (headOk_good s hb0 hz')
        clear h1 hz
        go_enter Try.func18, Try.ntmps18
        go_wp2
        go_loop [4, 25] (fun n i => ∃ k : Nat, k ≤ s.size ∧ i = .int .i64 k ∧ n = .int .i64 (valOf (s.data.toList.take k)) ∧ (s.data.toList.take k).all digit = true) (fun _ i => s.size - (intOf i).toNat)
        case atStart => exact ⟨0, Nat.zero_le _, rfl, rfl, rfl⟩
        case round =>
          obtain ⟨k, hk, rfl, rfl, hall⟩ := hrel
          obtain ⟨v0, v1⟩ := valOf_take_bd s k hk hb2 hall
          have HA : Hid ((s.data.toList.take k).all digit = true) := hall
          clear hall
          by_cases hlt : k < s.size
          · have HV : Hid (valOf (s.data.toList.take (k + 1)) = 10 * valOf (s.data.toList.take k) + ((s[k].toNat : Int) - 48)) := valOf_take_succ s k hlt
            have HS : Hid (digit s[k] = true ↔ (48 ≤ (s[k].toNat : Int) ∧ (s[k].toNat : Int) ≤ 57)) := digit_iff s[k]
            go_wp2
            all_goals first
              | (go_round
                 case rel => exact ⟨k + 1, by omega, by go_num, by rw [HV.out], all_step HA.out hlt (HS.out.2 (by omega))⟩
                 case measure => simp [intOf]; omega)
              | (go_ret2
                 have HN : decB s = false := by rw [HD.out]; exact all_stop hlt (Bool.eq_false_iff.2 fun h => by have := HS.out.1 h; omega)
                 exact ⟨ret_dec (decR_no HN).symm HN.symm, rfl⟩)
          · go_wp2
            go_ret2
            have HN : decB s = true := by rw [HD.out]; exact all_end HA.out (by omega)
            exact ⟨ret_dec (by rw [decR_yes HN, ← decV_take (k := k) (by omega)]) HN.symm, rfl⟩
    · have HB : Hid (decB s = false) := by unfold Hid decB inB; simp; intro h; omega
      go_enter Try.func18, Try.ntmps18
      go_wp2
      go_ret2
      exact ⟨ret_dec (decR_no HB.out).symm HB.out.symm, rfl⟩
  · have he := empty_yes (s := s) (by omega)
    have HB : Hid (decB s = false) := by unfold Hid decB inB; simp; intro h; omega
    go_enter Try.func18, Try.ntmps18
    go_wp2
    go_ret2
    exact ⟨ret_dec (decR_no HB.out).symm HB.out.symm, rfl⟩

end Go.Proofs.Ytgnodlkdjpnmoaa

