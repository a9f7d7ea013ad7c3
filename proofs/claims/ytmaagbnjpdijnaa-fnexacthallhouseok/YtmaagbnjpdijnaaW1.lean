import Derived.Test.YtmaagbnjpdijnaaRows
import Derived.WalkKit
import Derived.WalkSpells
import Derived.WalkLawsBesides
import Derived.Deep.QuietTactic
import Derived.BigQuiet
namespace Go.Proofs.Ytmaagbnjpdijnaa
open Go.RowKit

theorem hide {p : Prop} (h : p) : Hid p := h

def inB (lo hi n : Int) : Bool := decide (lo ≤ n ∧ n ≤ hi)
theorem inB_eq (lo hi n : Int) : inB lo hi n = (decide (lo ≤ n) && decide (n ≤ hi)) := by unfold inB; simp

theorem ret_bool {a b : Bool} (h : a = b) : Ending.returned (.bool a) = .returned (.bool b) := by rw [h]

set_option maxHeartbeats 400000 in
theorem in_any (n lo hi : Int) (w : World) :
    Calls Try.prog 76 #[.int .i64 n, .int .i64 lo, .int .i64 hi] w fun e w' => e = .returned (.bool (inB lo hi n)) ∧ w' = w := by
  rw [inB_eq]
  by_cases h1 : lo ≤ n
  · by_cases h2 : n ≤ hi
    all_goals
      go_enter Try.func76, Try.ntmps76
      go_wp2
      go_ret
      exact ⟨ret_bool (by simp [h1, h2]), rfl⟩
  · go_enter Try.func76, Try.ntmps76
    go_wp2
    go_ret
    refine ⟨ret_bool ?_, rfl⟩
    rw [Bool.eq_iff_iff]; simp; omega

def nameByte (c : UInt8) : Bool := decide (97 ≤ c.toNat ∧ c.toNat ≤ 122 ∨ 48 ≤ c.toNat ∧ c.toNat ≤ 57 ∨ c.toNat = 45)

set_option maxHeartbeats 400000 in
theorem byte_any (c : UInt8) (w : World) :
    Calls Try.prog 77 #[.int .u8 c.toNat] w fun e w' => e = .returned (.bool (nameByte c)) ∧ w' = w := by
  have hc := c.toNat_lt
  generalize hb : nameByte c = b
  have hb' : b = decide (97 ≤ c.toNat ∧ c.toNat ≤ 122 ∨ 48 ≤ c.toNat ∧ c.toNat ≤ 57 ∨ c.toNat = 45) := by rw [← hb]; rfl
  clear hb
  generalize c.toNat = x at *
  have H : Hid (b = decide (97 ≤ x ∧ x ≤ 122 ∨ 48 ≤ x ∧ x ≤ 57 ∨ x = 45)) := hb'
  clear hb'
  go_enter Try.func77, Try.ntmps77
  go_wp2
  all_goals go_ret
  all_goals refine ⟨ret_bool ?_, rfl⟩
  all_goals rw [H.out]
  all_goals (rw [Bool.eq_iff_iff]; simp; omega)

def allB (p : UInt8 → Bool) (s : ByteArray) : Bool := s.data.toList.all p

theorem take_snoc (s : ByteArray) (k : Nat) (h : k < s.size) : s.data.toList.take (k + 1) = s.data.toList.take k ++ [s[k]] := by
  rw [List.take_succ_eq_append_getElem (by simpa using h)]; rfl

/-- what a walk over bytes finds: all of them, or one that is not so -/
theorem all_stop {p : UInt8 → Bool} {s : ByteArray} {k : Nat} (h : k < s.size) (hp : p s[k] = false) : allB p s = false := by
  unfold allB
  rw [List.all_eq_false]
  exact ⟨s[k], by simp only [Array.mem_toList_iff]; exact Array.getElem_mem h, by simp [hp]⟩
theorem all_end {p : UInt8 → Bool} {s : ByteArray} {k : Nat} (h : (s.data.toList.take k).all p = true) (hk : s.size ≤ k) : allB p s = true := by
  unfold allB
  rwa [List.take_of_length_le (by simpa using hk)] at h
theorem all_step {p : UInt8 → Bool} {s : ByteArray} {k : Nat} (h : (s.data.toList.take k).all p = true) (hk : k < s.size) (hp : p s[k] = true) : (s.data.toList.take (k + 1)).all p = true := by
  rw [take_snoc s k hk, List.all_append, h]; simp [hp]

theorem nameByte_iff (c : UInt8) : nameByte c = true ↔ (97 ≤ (c.toNat : Int) ∧ (c.toNat : Int) ≤ 122 ∨ 48 ≤ (c.toNat : Int) ∧ (c.toNat : Int) ≤ 57 ∨ (c.toNat : Int) = 45) := by
  unfold nameByte; simp; omega

set_option maxHeartbeats 400000 in
theorem nameBytes_any (s : ByteArray) (w : World) (hs : s.size ≤ maxLen) :
    Calls Try.prog 80 #[.string s] w fun e w' => e = .returned (.bool (allB nameByte s)) ∧ w' = w := by
  unfold maxLen at hs
  go_enter Try.func80, Try.ntmps80
  go_wp2
  go_loop [7] (fun i => ∃ k : Nat, k ≤ s.size ∧ i = .int .i64 k ∧ (s.data.toList.take k).all nameByte = true) (fun i => s.size - (intOf i).toNat)
  case atStart => exact ⟨0, Nat.zero_le _, rfl, rfl⟩
  case round =>
    obtain ⟨k, hk, rfl, hall⟩ := hrel
    have HA : Hid ((s.data.toList.take k).all nameByte = true) := hall
    clear hall
    by_cases hlt : k < s.size
    · have hsn := nameByte_iff s[k]
      have HS : Hid (nameByte s[k] = true ↔ (97 ≤ (s[k].toNat : Int) ∧ (s[k].toNat : Int) ≤ 122 ∨ 48 ≤ (s[k].toNat : Int) ∧ (s[k].toNat : Int) ≤ 57 ∨ (s[k].toNat : Int) = 45)) := hsn
      clear hsn
      go_wp2
      all_goals try simp only [bne_iff_ne, ne_eq, bne_eq_false_iff_eq] at *
      all_goals first
        | (go_round
           case rel => exact ⟨k + 1, by omega, by go_num, all_step HA.out hlt (HS.out.2 (by omega))⟩
           case measure => simp [intOf]; omega)
        | (go_ret
           exact ⟨ret_bool (all_stop hlt (Bool.eq_false_iff.2 fun h => by have := HS.out.1 h; omega)).symm, rfl⟩)
    · go_wp2
      go_ret
      exact ⟨ret_bool (all_end HA.out (by omega)).symm, rfl⟩

def nameB (s : ByteArray) : Bool := inB 1 16 s.size && allB nameByte s

set_option maxHeartbeats 400000 in
theorem isName_any (s : ByteArray) (w : World) (hs : s.size ≤ maxLen) :
    Calls Try.prog 47 #[.string s] w fun e w' => e = .returned (.bool (nameB s)) ∧ w' = w := by
  have hk := nameBytes_any s w hs
  unfold maxLen at hs
  by_cases h1 : 1 ≤ (s.size : Int)
  · by_cases h2 : (s.size : Int) ≤ 16
    · have HB : Hid (nameB s = allB nameByte s) := by unfold Hid nameB inB; simp; intro h; omega
      go_enter Try.func47, Try.ntmps47
      go_wp2_with (go_at_call 80; refine hk.mono ?_; rintro e w' ⟨rfl, rfl⟩)
      go_ret
      exact ⟨ret_bool HB.out.symm, rfl⟩
    · have HB : Hid (nameB s = false) := by unfold Hid nameB inB; simp; intro h; omega
      go_enter Try.func47, Try.ntmps47
      go_wp2
      go_ret
      exact ⟨ret_bool HB.out.symm, rfl⟩
  · have HB : Hid (nameB s = false) := by unfold Hid nameB inB; simp; intro h; omega
    go_enter Try.func47, Try.ntmps47
    go_wp2
    go_ret
    exact ⟨ret_bool HB.out.symm, rfl⟩

set_option maxHeartbeats 400000 in
theorem nameOk_any (s : ByteArray) (w : World) (hs : s.size ≤ maxLen) :
    Calls Try.prog 44 #[.string s] w fun e w' => e = .returned (.bool (nameB s)) ∧ w' = w := by
  unfold maxLen at hs
  by_cases h1 : inB 1 16 s.size = true
  · have HB : Hid (nameB s = allB nameByte s) := by unfold Hid nameB; simp [h1]
    go_enter Try.func44, Try.ntmps44
    go_wp2_with (go_at_call 76; refine (in_any _ _ _ _).mono ?_; rintro e w' ⟨rfl, rfl⟩)
    go_loop [3] (fun i => ∃ k : Nat, k ≤ s.size ∧ i = .int .i64 k ∧ (s.data.toList.take k).all nameByte = true) (fun i => s.size - (intOf i).toNat)
    case atStart => exact ⟨0, Nat.zero_le _, rfl, rfl⟩
    case round =>
      obtain ⟨k, hk, rfl, hall⟩ := hrel
      have HA : Hid ((s.data.toList.take k).all nameByte = true) := hall
      clear hall
      by_cases hlt : k < s.size
      · by_cases hn : nameByte s[k] = true
        · go_wp2_with (go_at_call 77; refine (byte_any _ _).mono ?_; rintro e w' ⟨rfl, rfl⟩)
          go_round
          case rel => exact ⟨k + 1, by omega, by go_num, all_step HA.out hlt hn⟩
          case measure => simp [intOf]; omega
        · have hn' : nameByte s[k] = false := by simpa using hn
          go_wp2_with (go_at_call 77; refine (byte_any _ _).mono ?_; rintro e w' ⟨rfl, rfl⟩)
          go_ret
          exact ⟨ret_bool (by rw [HB.out, all_stop hlt hn']), rfl⟩
      · go_wp2
        go_ret
        exact ⟨ret_bool (by rw [HB.out, all_end HA.out (by omega)]), rfl⟩
  · have h1' : inB 1 16 s.size = false := by simpa using h1
    have HB : Hid (nameB s = false) := by unfold Hid nameB; simp [h1']
    go_enter Try.func44, Try.ntmps44
    go_wp2_with (go_at_call 76; refine (in_any _ _ _ _).mono ?_; rintro e w' ⟨rfl, rfl⟩)
    go_ret
    exact ⟨ret_bool HB.out.symm, rfl⟩
end Go.Proofs.Ytmaagbnjpdijnaa

