import Derived.Test.YtgnodlkdjpnmoaaW1
namespace Go.Proofs.Ytgnodlkdjpnmoaa
open Go.RowKit

theorem ret_int {a b : Int} (h : a = b) : Ending.returned (.int .i64 a) = .returned (.int .i64 b) := by rw [h]

def digit (c : UInt8) : Bool := decide (48 ≤ c.toNat ∧ c.toNat ≤ 57)
theorem digit_iff (c : UInt8) : digit c = true ↔ (48 ≤ (c.toNat : Int) ∧ (c.toNat : Int) ≤ 57) := by
  unfold digit; simp; omega
def valOf (l : List UInt8) : Int := l.foldl (fun n c => 10 * n + ((c.toNat : Int) - 48)) 0
theorem valOf_snoc (l : List UInt8) (c : UInt8) : valOf (l ++ [c]) = 10 * valOf l + ((c.toNat : Int) - 48) := by
  unfold valOf; rw [List.foldl_append]; rfl
theorem valOf_take_succ (s : ByteArray) (k : Nat) (h : k < s.size) : valOf (s.data.toList.take (k + 1)) = 10 * valOf (s.data.toList.take k) + ((s[k].toNat : Int) - 48) := by
  rw [take_snoc s k h, valOf_snoc]
theorem valOf_take_pow (s : ByteArray) (k : Nat) : k ≤ s.size → (s.data.toList.take k).all digit = true → 0 ≤ valOf (s.data.toList.take k) ∧ valOf (s.data.toList.take k) < 10 ^ k := by
  induction k with
  | zero => intro _ _; simp [valOf]
  | succ k ih =>
    intro hk h
    rw [take_snoc s k (by omega), List.all_append] at h
    simp only [Bool.and_eq_true, List.all_cons, List.all_nil, Bool.and_true] at h
    obtain ⟨i1, i2⟩ := ih (by omega) h.1
    have hd := (digit_iff _).1 h.2
    rw [valOf_take_succ s k (by omega), Int.pow_succ]
    omega
theorem valOf_take_bd (s : ByteArray) (k : Nat) (hk : k ≤ s.size) (h7 : s.size ≤ 7) (h : (s.data.toList.take k).all digit = true) : 0 ≤ valOf (s.data.toList.take k) ∧ valOf (s.data.toList.take k) < 10000000 := by
  obtain ⟨h0, h1⟩ := valOf_take_pow s k hk h
  refine ⟨h0, ?_⟩
  have : k = 0 ∨ k = 1 ∨ k = 2 ∨ k = 3 ∨ k = 4 ∨ k = 5 ∨ k = 6 ∨ k = 7 := by omega
  generalize valOf (s.data.toList.take k) = v at *
  rcases this with rfl | rfl | rfl | rfl | rfl | rfl | rfl | rfl <;> simp at h1 <;> omega

/-- no needless zero ahead -/
def headOk (s : ByteArray) : Bool := !(decide (1 < s.size) && (s.data.toList.head? == some 48))
theorem head_of (s : ByteArray) (h : 0 < s.size) : s.data.toList.head? = some s[0] := by
  have : 0 < s.data.toList.length := by simpa using h
  rw [List.head?_eq_getElem?, List.getElem?_eq_getElem this]; rfl
theorem headOk_bad (s : ByteArray) (h : 0 < s.size) (h1 : 1 < s.size) (hz : ((s[0].toNat : Int) == 48) = true) : headOk s = false := by
  have e : s[0] = 48 := by
    have h48 : (s[0].toNat : Int) = 48 := by simpa using hz
    exact UInt8.toNat_inj.1 (by show s[0].toNat = 48; omega)
  unfold headOk; rw [head_of s h, e]; simp [h1]
theorem headOk_good (s : ByteArray) (h : 0 < s.size) (hz : ((s[0].toNat : Int) == 48) = false) : headOk s = true := by
  have e : s[0] ≠ 48 := by
    intro e; rw [e] at hz; simp at hz
  unfold headOk; rw [head_of s h]; simp [e]
theorem headOk_one (s : ByteArray) (h : s.size ≤ 1) : headOk s = true := by
  unfold headOk; simp; omega

def decB (s : ByteArray) : Bool := inB 1 7 s.size && headOk s && allB digit s
def decV (s : ByteArray) : Int := valOf s.data.toList
def numV (s : ByteArray) : Int := if decB s = true then decV s else -1
theorem decB_of {s : ByteArray} (h1 : inB 1 7 s.size = true) (h2 : headOk s = true) : decB s = allB digit s := by unfold decB; simp [h1, h2]
theorem numV_no {s : ByteArray} (h : decB s = false) : numV s = -1 := by unfold numV; simp [h]
theorem numV_yes {s : ByteArray} (h : decB s = true) : numV s = decV s := by unfold numV; simp [h]
theorem decV_take {s : ByteArray} {k : Nat} (h : s.size ≤ k) : valOf (s.data.toList.take k) = decV s := by
  unfold decV; rw [List.take_of_length_le (by simpa using h)]

set_option maxHeartbeats 1000000 in
theorem l1Number_any (s : ByteArray) (w : World) (hs : s.size ≤ maxLen) :
    Calls Try.prog 17 #[.string s] w fun e w' => e = .returned (.int .i64 (numV s)) ∧ w' = w := by
  unfold maxLen at hs
  by_cases h1 : inB 1 7 s.size = true
  · have hb : 1 ≤ s.size ∧ s.size ≤ 7 := by have := h1; unfold inB at this; simp at this; omega
    obtain ⟨hb1, hb2⟩ := hb
    have hb0 : 0 < s.size := by omega
    have fin : ∀ (hh : Hid (headOk s = true)), Hid (decB s = allB digit s) := fun hh => decB_of h1 hh.out
    by_cases hbad : 1 < s.size ∧ ((s[0].toNat : Int) == 48) = true
    · obtain ⟨hb3, hz⟩ := hbad
      have HB : Hid (numV s = -1) := numV_no (by unfold decB; rw [headOk_bad s hb0 hb3 hz]; simp)
      clear fin
      go_enter Try.func17, Try.ntmps17
      go_wp2_with (go_at_call 19; refine (in_any _ _ _ _).mono ?_; rintro e w' ⟨rfl, rfl⟩)
      go_ret
      exact ⟨ret_int HB.out.symm, rfl⟩
    · have HD : Hid (decB s = allB digit s) := by
        refine fin ?_
        by_cases h2 : 1 < s.size
        · exact headOk_good s hb0 (by simpa [h2] using hbad)
        · exact headOk_one s (by omega)
      clear fin
      have hq : s.size = 1 ∨ (1 < s.size ∧ ((s[0].toNat : Int) == 48) = false) := by
        by_cases h2 : 1 < s.size
        · exact Or.inr ⟨h2, by simpa [h2] using hbad⟩
        · left; omega
      clear hbad
      have hq' : Hid (¬ 1 < s.size) ∨ (1 < s.size ∧ ((s[0].toNat : Int) == 48) = false) := by
        rcases hq with hq | hq
        · left; unfold Hid; omega
        · exact Or.inr hq
      clear hq
      rcases hq' with hq | ⟨hq, hz⟩
      · replace hq : ¬ 1 < s.size := hq.out
        go_enter Try.func17, Try.ntmps17
        go_wp2_with (go_at_call 19; refine (in_any _ _ _ _).mono ?_; rintro e w' ⟨rfl, rfl⟩)
        go_loop [3, 4] (fun n i => ∃ k : Nat, k ≤ s.size ∧ i = .int .i64 k ∧ n = .int .i64 (valOf (s.data.toList.take k)) ∧ (s.data.toList.take k).all digit = true) (fun _ i => s.size - (intOf i).toNat)
        case atStart => exact ⟨0, Nat.zero_le _, rfl, rfl, rfl⟩
        case round =>
          obtain ⟨k, hk, rfl, rfl, hall⟩ := hrel
          obtain ⟨v0, v1⟩ := valOf_take_bd s k hk hb2 hall
          have HA : Hid ((s.data.toList.take k).all digit = true) := hall
          clear hall
          by_cases hlt : k < s.size
          · have HV : Hid (valOf (s.data.toList.take (k + 1)) = 10 * valOf (s.data.toList.take k) + ((s[k].toNat : Int) - 48)) := valOf_take_succ s k hlt
            have HS : Hid (digit s[k] = true ↔ (48 ≤ (s[k].toNat : Int) ∧ (s[k].toNat : Int) ≤ 57)) := digit_iff s[k]
            go_wp2
            all_goals first
              | (go_round
                 case rel => exact ⟨k + 1, by omega, by go_num, by rw [HV.out]; go_num, all_step HA.out hlt (HS.out.2 (by omega))⟩
                 case measure => simp [intOf]; omega)
              | (go_ret
                 exact ⟨ret_int (numV_no (by rw [HD.out]; exact all_stop hlt (Bool.eq_false_iff.2 fun h => by have := HS.out.1 h; omega))).symm, rfl⟩)
          · go_wp2
            go_ret
            exact ⟨ret_int (by rw [numV_yes (by rw [HD.out]; exact all_end HA.out (by omega)), ← decV_take (k := k) (by omega)]), rfl⟩
      · go_enter Try.func17, Try.ntmps17
        go_wp2_with (go_at_call 19; refine (in_any _ _ _ _).mono ?_; rintro e w' ⟨rfl, rfl⟩)
        go_loop [3, 4] (fun n i => ∃ k : Nat, k ≤ s.size ∧ i = .int .i64 k ∧ n = .int .i64 (valOf (s.data.toList.take k)) ∧ (s.data.toList.take k).all digit = true) (fun _ i => s.size - (intOf i).toNat)
        case atStart => exact ⟨0, Nat.zero_le _, rfl, rfl, rfl⟩
        case round =>
          obtain ⟨k, hk, rfl, rfl, hall⟩ := hrel
          obtain ⟨v0, v1⟩ := valOf_take_bd s k hk hb2 hall
          have HA : Hid ((s.data.toList.take k).all digit = true) := hall
          clear hall
          by_cases hlt : k < s.size
          · have HV : Hid (valOf (s.data.toList.take (k + 1)) = 10 * valOf (s.data.toList.take k) + ((s[k].toNat : Int) - 48)) := valOf_take_succ s k hlt
            have HS : Hid (digit s[k] = true ↔ (48 ≤ (s[k].toNat : Int) ∧ (s[k].toNat : Int) ≤ 57)) := digit_iff s[k]
            go_wp2
            all_goals first
              | (go_round
                 case rel => exact ⟨k + 1, by omega, by go_num, by rw [HV.out]; go_num, all_step HA.out hlt (HS.out.2 (by omega))⟩
                 case measure => simp [intOf]; omega)
              | (go_ret
                 exact ⟨ret_int (numV_no (by rw [HD.out]; exact all_stop hlt (Bool.eq_false_iff.2 fun h => by have := HS.out.1 h; omega))).symm, rfl⟩)
          · go_wp2
            go_ret
            exact ⟨ret_int (by rw [numV_yes (by rw [HD.out]; exact all_end HA.out (by omega)), ← decV_take (k := k) (by omega)]), rfl⟩
  · have h1' : inB 1 7 s.size = false := by simpa using h1
    have HB : Hid (numV s = -1) := numV_no (by unfold decB; simp [h1'])
    go_enter Try.func17, Try.ntmps17
    go_wp2_with (go_at_call 19; refine (in_any _ _ _ _).mono ?_; rintro e w' ⟨rfl, rfl⟩)
    go_ret
    exact ⟨ret_int HB.out.symm, rfl⟩
end Go.Proofs.Ytgnodlkdjpnmoaa

