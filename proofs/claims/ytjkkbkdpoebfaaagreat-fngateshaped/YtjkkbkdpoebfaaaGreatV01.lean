import Derived.Test.YtjkkbkdpoebfaaaGreatV00
namespace Go.Proofs.YtjkkbkdpoebfaaaGreat
open Go.RowKit

theorem empty_yes {s : ByteArray} (h : s.size = 0) : s.toList.isEmpty = true := by
  rw [ByteArray.toList_eq, List.isEmpty_iff_length_eq_zero]; simpa using h
theorem empty_no {s : ByteArray} (h : 0 < s.size) : s.toList.isEmpty = false := by
  rw [ByteArray.toList_eq, List.isEmpty_eq_false_iff_exists_mem]
  exact ⟨s[0], by simp only [Array.mem_toList_iff]; exact Array.getElem_mem h⟩

def decR (s : ByteArray) : Int := if decB s = true then decV s else 0
theorem decR_no {s : ByteArray} (h : decB s = false) : decR s = 0 := by unfold decR; simp [h]
theorem decR_yes {s : ByteArray} (h : decB s = true) : decR s = decV s := by unfold decR; simp [h]
theorem ret_dec {a c : Int} {b d : Bool} (h : a = c) (h' : b = d) : Ending.returned (.tuple #[.int .i64 a, .bool b]) = .returned (.tuple #[.int .i64 c, .bool d]) := by rw [h, h']

set_option maxHeartbeats 1000000 in
theorem gateDecimal_any (s : ByteArray) (w : World) (hs : s.size ≤ maxLen) :
    Calls Tryz.prog 119 #[.string s] w fun e w' => e = .returned (.tuple #[.int .i64 (decR s), .bool (decB s)]) ∧ w' = w := by
  unfold maxLen at hs
  by_cases hb0 : 0 < s.size
  · have he := empty_no hb0
    by_cases hb2 : s.size ≤ 7
    · have h1 : Hid (inB 1 7 s.size = true) := by unfold Hid inB; simp; omega
      by_cases hz : ((s[0].toNat : Int) == 48) = true
      · by_cases hb3 : 1 < s.size
        · have HB : Hid (decB s = false) := by unfold Hid decB; rw [headOk_bad s hb0 hb3 hz]; simp
          go_enter Tryz.func119, Tryz.ntmps119
          go_wp2
          go_ret2
          exact ⟨ret_dec (decR_no HB.out).symm HB.out.symm, rfl⟩
        · have HD : Hid (decB s = allB digit s) := decB_of h1.out (headOk_one s (by omega))
          clear h1
          go_enter Tryz.func119, Tryz.ntmps119
          go_wp2
          go_loop [4, 25] (fun n i => ∃ k : Nat, k ≤ s.size ∧ i = .int .i64 k ∧ n = .int .i64 (valOf (s.data.toList.take k)) ∧ (s.data.toList.take k).all digit = true) (fun _ i => s.size - (intOf i).toNat)
          case atStart => exact ⟨0, Nat.zero_le _, rfl, rfl, rfl⟩
          case round =>
            obtain ⟨k, hk, rfl, rfl, hall⟩ := hrel
            obtain ⟨v0, v1⟩ := valOf_take_bd s k hk hb2 hall
            have HA : Hid ((s.data.toList.take k).all digit = true) := hall
            clear hall
            by_cases hlt : k < s.size
            · have HV : Hid (valOf (s.data.toList.take (k + 1)) = 10 * valOf (s.data.toList.take k) + ((s[k].toNat : Int) - 48)) := valOf_take_succ s k hlt
              have HS : Hid (digit s[k] = true ↔ (48 ≤ (s[k].toNat : Int) ∧ (s[k].toNat : Int) ≤ 57)) := digit_iff s[k]
              go_wp2
              all_goals first
                | (go_round
                   case rel => exact ⟨k + 1, by omega, by go_num, by rw [HV.out], all_step HA.out hlt (HS.out.2 (by omega))⟩
                   case measure => simp [intOf]; omega)
                | (go_ret2
                   have HN : decB s = false := by rw [HD.out]; exact all_stop hlt (Bool.eq_false_iff.2 fun h => by have := HS.out.1 h; omega)
                   exact ⟨ret_dec (decR_no HN).symm HN.symm, rfl⟩)
            · go_wp2
              go_ret2
              have HN : decB s = true := by rw [HD.out]; exact all_end HA.out (by omega)
              exact ⟨ret_dec (by rw [decR_yes HN, ← decV_take (k := k) (by omega)]) HN.symm, rfl⟩
      · have hz' : ((s[0].toNat : Int) == 48) = false := by simpa using hz
        have HD : Hid (decB s = allB digit s) := decB_of h1.out (headOk_good s hb0 hz')
        clear h1 hz
        go_enter Tryz.func119, Tryz.ntmps119
        go_wp2
        go_loop [4, 25] (fun n i => ∃ k : Nat, k ≤ s.size ∧ i = .int .i64 k ∧ n = .int .i64 (valOf (s.data.toList.take k)) ∧ (s.data.toList.take k).all digit = true) (fun _ i => s.size - (intOf i).toNat)
        case atStart => exact ⟨0, Nat.zero_le _, rfl, rfl, rfl⟩
        case round =>
          obtain ⟨k, hk, rfl, rfl, hall⟩ := hrel
          obtain ⟨v0, v1⟩ := valOf_take_bd s k hk hb2 hall
          have HA : Hid ((s.data.toList.take k).all digit = true) := hall
          clear hall
          by_cases hlt : k < s.size
          · have HV : Hid (valOf (s.data.toList.take (k + 1)) = 10 * valOf (s.data.toList.take k) + ((s[k].toNat : Int) - 48)) := valOf_take_succ s k hlt
            have HS : Hid (digit s[k] = true ↔ (48 ≤ (s[k].toNat : Int) ∧ (s[k].toNat : Int) ≤ 57)) := digit_iff s[k]
            go_wp2
            all_goals first
              | (go_round
                 case rel => exact ⟨k + 1, by omega, by go_num, by rw [HV.out], all_step HA.out hlt (HS.out.2 (by omega))⟩
                 case measure => simp [intOf]; omega)
              | (go_ret2
                 have HN : decB s = false := by rw [HD.out]; exact all_stop hlt (Bool.eq_false_iff.2 fun h => by have := HS.out.1 h; omega)
                 exact ⟨ret_dec (decR_no HN).symm HN.symm, rfl⟩)
          · go_wp2
            go_ret2
            have HN : decB s = true := by rw [HD.out]; exact all_end HA.out (by omega)
            exact ⟨ret_dec (by rw [decR_yes HN, ← decV_take (k := k) (by omega)]) HN.symm, rfl⟩
    · have HB : Hid (decB s = false) := by unfold Hid decB inB; simp; intro h; omega
      go_enter Tryz.func119, Tryz.ntmps119
      go_wp2
      go_ret2
      exact ⟨ret_dec (decR_no HB.out).symm HB.out.symm, rfl⟩
  · have he := empty_yes (s := s) (by omega)
    have HB : Hid (decB s = false) := by unfold Hid decB inB; simp; intro h; omega
    go_enter Tryz.func119, Tryz.ntmps119
    go_wp2
    go_ret2
    exact ⟨ret_dec (decR_no HB.out).symm HB.out.symm, rfl⟩

def textByte (c : UInt8) : Bool := decide (33 ≤ c.toNat ∧ c.toNat ≤ 126)
theorem textByte_iff (c : UInt8) : textByte c = true ↔ (33 ≤ (c.toNat : Int) ∧ (c.toNat : Int) ≤ 126) := by
  unfold textByte; simp; omega
def textB (lo hi : Int) (s : ByteArray) : Bool := decide (0 < s.size) && inB lo hi s.size && allB textByte s
theorem textB_size {lo hi : Int} {s : ByteArray} (h : ¬ (0 < s.size ∧ lo ≤ s.size ∧ (s.size : Int) ≤ hi)) : textB lo hi s = false := by
  unfold textB inB; rw [Bool.eq_false_iff]; simp; intro a b c; exact absurd ⟨a, b, c⟩ h
theorem textB_all {lo hi : Int} {s : ByteArray} (h0 : 0 < s.size) (h1 : lo ≤ s.size) (h2 : (s.size : Int) ≤ hi) : textB lo hi s = allB textByte s := by
  unfold textB inB; simp [h0, h1, h2]

set_option maxHeartbeats 1000000 in
theorem textFits_any (lo hi : Int) (s : ByteArray) (w : World) (hs : s.size ≤ maxLen) :
    Calls Tryz.prog 125 #[.agg #[.int .i64 lo, .int .i64 hi], .string s] w fun e w' => e = .returned (.bool (textB lo hi s)) ∧ Below w.heap.size w w' := by
  unfold maxLen at hs
  by_cases hb0 : 0 < s.size
  · have he := empty_no hb0
    by_cases h1 : lo ≤ (s.size : Int)
    · by_cases h2 : (s.size : Int) ≤ hi
      · have HD : Hid (textB lo hi s = allB textByte s) := textB_all hb0 h1 h2
        go_enter Tryz.func125, Tryz.ntmps125
        go_wp2

        go_loop [24] (fun i => ∃ k : Nat, k ≤ s.size ∧ i = .int .i64 k ∧ (s.data.toList.take k).all textByte = true) (fun i => s.size - (intOf i).toNat)
        case atStart => exact ⟨0, Nat.zero_le _, rfl, rfl⟩
        case round =>
          obtain ⟨k, hk, rfl, hall⟩ := hrel
          have HA : Hid ((s.data.toList.take k).all textByte = true) := hall
          clear hall
          by_cases hlt : k < s.size
          · have HS : Hid (textByte s[k] = true ↔ (33 ≤ (s[k].toNat : Int) ∧ (s[k].toNat : Int) ≤ 126)) := textByte_iff s[k]
            go_wp2
            all_goals first
              | (go_round
                 case rel => exact ⟨k + 1, by omega, by go_num, all_step HA.out hlt (HS.out.2 (by omega))⟩
                 case measure => simp [intOf]; omega)
              | (go_ret
                 exact ⟨ret_bool (by rw [HD.out]; exact (all_stop hlt (Bool.eq_false_iff.2 fun h => by have := HS.out.1 h; omega)).symm), (Below.refl _ _).alloc (Nat.le_refl _) _⟩)
          · go_wp2
            go_ret
            exact ⟨ret_bool (by rw [HD.out]; exact (all_end HA.out (by omega)).symm), (Below.refl _ _).alloc (Nat.le_refl _) _⟩
      · have HB : Hid (textB lo hi s = false) := textB_size (by omega)
        go_enter Tryz.func125, Tryz.ntmps125
        go_wp2
        go_ret
        exact ⟨ret_bool HB.out.symm, (Below.refl _ _).alloc (Nat.le_refl _) _⟩
    · have HB : Hid (textB lo hi s = false) := textB_size (by omega)
      go_enter Tryz.func125, Tryz.ntmps125
      go_wp2
      go_ret
      exact ⟨ret_bool HB.out.symm, (Below.refl _ _).alloc (Nat.le_refl _) _⟩
  · have he := empty_yes (s := s) (by omega)
    have HB : Hid (textB lo hi s = false) := textB_size (by omega)
    go_enter Tryz.func125, Tryz.ntmps125
    go_wp2
    go_ret
    exact ⟨ret_bool HB.out.symm, (Below.refl _ _).alloc (Nat.le_refl _) _⟩
end Go.Proofs.YtjkkbkdpoebfaaaGreat
namespace Go.Proofs.YtjkkbkdpoebfaaaGreat
open Go.RowKit

/-- THE VALUE v IS A []string THAT HOLDS L, IN THE WORLD w. -/
def StrsAt (w : World) (v : Value) (L : List ByteArray) : Prop :=
  (∃ (a : Option Addr) (cap : Nat), v = .slice a 0 cap ∧ L = []) ∨
  ∃ (b off cap : Nat), v = .slice (some ⟨b, off, none⟩) L.length cap ∧ L ≠ [] ∧ L.length ≤ maxLen ∧ b < w.heap.size ∧
    (∀ i (h : i < L.length), w.cell? ⟨b, off + i, none⟩ = some (.string L[i])) ∧ ∀ s ∈ L, s.size ≤ maxLen

theorem StrsAt.below {w w' : World} {v : Value} {L : List ByteArray} (h : StrsAt w v L) (hb : Below w.heap.size w w') : StrsAt w' v L := by
  rcases h with h | ⟨b, off, cap, h1, h2, h3, h4, h5, h6⟩
  · exact Or.inl h
  · exact Or.inr ⟨b, off, cap, h1, h2, h3, Nat.lt_of_lt_of_le h4 hb.size, fun i hi => by rw [hb.cell (p := ⟨b, off + i, none⟩) h4]; exact h5 i hi, h6⟩

def hasB (L : List ByteArray) (s : ByteArray) : Bool := L.any fun x => x.toList == s.toList
theorem has_stop {L : List ByteArray} {s : ByteArray} {k : Nat} (h : k < L.length) (hp : (L[k].toList == s.toList) = true) : hasB L s = true := by
  unfold hasB; rw [List.any_eq_true]; exact ⟨L[k], List.getElem_mem h, hp⟩
theorem has_step {L : List ByteArray} {s : ByteArray} {k : Nat} (h : hasB (L.take k) s = false) (hk : k < L.length) (hp : (L[k].toList == s.toList) = false) : hasB (L.take (k + 1)) s = false := by
  unfold hasB at *
  rw [List.take_succ_eq_append_getElem hk, List.any_append, h]; simp [hp]
theorem has_end {L : List ByteArray} {s : ByteArray} {k : Nat} (h : hasB (L.take k) s = false) (hk : L.length ≤ k) : hasB L s = false := by
  rwa [List.take_of_length_le hk] at h

set_option maxHeartbeats 400000 in
theorem l1Has_any (v : Value) (L : List ByteArray) (s : ByteArray) (w : World) (hv : StrsAt w v L) :
    Calls Tryz.prog 61 #[v, .string s] w fun e w' => e = .returned (.bool (hasB L s)) ∧ w' = w := by
  rcases hv with ⟨a, cap, rfl, rfl⟩ | ⟨b, off, cap, rfl, hne, hm, hbw, hc, hsz⟩
  · go_enter Tryz.func61, Tryz.ntmps61
    go_wp2
    go_loop [5] (fun i => i = .int .i64 0) (fun _ => 0)
    case atStart => rfl
    case round =>
      subst hrel
      go_wp2
      go_ret
      exact ⟨rfl, rfl⟩
  · unfold maxLen at hm
    go_enter Tryz.func61, Tryz.ntmps61
    go_wp2
    go_loop [5] (fun i => ∃ k : Nat, i = .int .i64 k ∧ k ≤ L.length ∧ hasB (L.take k) s = false) (fun i => L.length - (intOf i).toNat)
    case atStart => exact ⟨0, rfl, by omega, rfl⟩
    case round =>
      obtain ⟨k, rfl, hk, hh⟩ := hrel
      have HH : Hid (hasB (L.take k) s = false) := hh
      clear hh
      by_cases hlt : k < L.length
      · have hck := hc k hlt
        by_cases he : (L[k].toList == s.toList) = true
        · go_wp2
          go_ret
          exact ⟨ret_bool (has_stop hlt he).symm, rfl⟩
        · have he' : (L[k].toList == s.toList) = false := by simpa using he
          clear he
          go_wp2
          go_round
          case rel => exact ⟨k + 1, by go_num, by omega, has_step HH.out hlt he'⟩
          case measure => simp [intOf]; omega
      · go_wp2
        go_ret
        exact ⟨ret_bool (has_end HH.out (by omega)).symm, rfl⟩

set_option maxHeartbeats 400000 in
theorem index_any (v : Value) (L : List ByteArray) (s : ByteArray) (w : World) (hv : StrsAt w v L) :
    Calls Tryz.prog 100 #[v, .string s] w fun e w' => ∃ r : Int, e = .returned (.int .i64 r) ∧ w' = w ∧ decide (0 ≤ r) = hasB L s := by
  rcases hv with ⟨a, cap, rfl, rfl⟩ | ⟨b, off, cap, rfl, hne, hm, hbw, hc, hsz⟩
  · go_enter Tryz.func100, Tryz.ntmps100
    go_wp2
    go_loop [8] (fun i => i = .int .i64 0) (fun _ => 0)
    case atStart => rfl
    case round =>
      subst hrel
      go_wp2
      go_ret
      exact ⟨-1, rfl, rfl, rfl⟩
  · unfold maxLen at hm
    go_enter Tryz.func100, Tryz.ntmps100
    go_wp2
    go_loop [8] (fun i => ∃ k : Nat, i = .int .i64 k ∧ k ≤ L.length ∧ hasB (L.take k) s = false) (fun i => L.length - (intOf i).toNat)
    case atStart => exact ⟨0, rfl, by omega, rfl⟩
    case round =>
      obtain ⟨k, rfl, hk, hh⟩ := hrel
      have HH : Hid (hasB (L.take k) s = false) := hh
      clear hh
      by_cases hlt : k < L.length
      · have hck := hc k hlt
        by_cases he : (s.toList == L[k].toList) = true
        · go_wp2
          go_ret
          exact ⟨k, rfl, rfl, by rw [has_stop hlt (by rw [Bool.beq_comm]; exact he)]; simp⟩
        · have he' : (s.toList == L[k].toList) = false := by simpa using he
          clear he
          go_wp2
          go_round
          case rel => exact ⟨k + 1, by go_num, by omega, has_step HH.out hlt (by rw [Bool.beq_comm]; exact he')⟩
          case measure => simp [intOf]; omega
      · go_wp2
        go_ret
        exact ⟨-1, rfl, rfl, by rw [has_end HH.out (by omega)]; rfl⟩

set_option maxHeartbeats 400000 in
theorem contains_any (v : Value) (L : List ByteArray) (s : ByteArray) (w : World) (hv : StrsAt w v L) :
    Calls Tryz.prog 98 #[v, .string s] w fun e w' => e = .returned (.bool (hasB L s)) ∧ w' = w := by
  go_enter Tryz.func98, Tryz.ntmps98
  go_wp2_with fail
  refine (index_any v L s _ hv).mono ?_
  rintro e w1 ⟨r, rfl, rfl, hr⟩
  have HR : Hid (decide (0 ≤ r) = hasB L s) := hr
  clear hr
  go_wp2
  go_ret
  exact ⟨ret_bool HR.out, rfl⟩
end Go.Proofs.YtjkkbkdpoebfaaaGreat
