import Derived.Test.YtfohnageehneoaaGreatRows
import Derived.WalkKit
import Derived.WalkSpells
import Derived.WalkLawsBesides
import Derived.Deep.QuietTactic
import Derived.BigQuiet
import Derived.Deep.OwnRows
namespace Go.Proofs.YtfohnageehneoaaGreat
open Go.RowKit

theorem hide {p : Prop} (h : p) : Hid p := h

def inB (lo hi n : Int) : Bool := decide (lo ≤ n ∧ n ≤ hi)
theorem inB_eq (lo hi n : Int) : inB lo hi n = (decide (lo ≤ n) && decide (n ≤ hi)) := by unfold inB; simp

theorem ret_bool {a b : Bool} (h : a = b) : Ending.returned (.bool a) = .returned (.bool b) := by rw [h]

set_option maxHeartbeats 400000 in
theorem in_any (n lo hi : Int) (w : World) :
    Calls Tryz.prog 38 #[.int .i64 n, .int .i64 lo, .int .i64 hi] w fun e w' => e = .returned (.bool (inB lo hi n)) ∧ w' = w := by
  rw [inB_eq]
  by_cases h1 : lo ≤ n
  · by_cases h2 : n ≤ hi
    all_goals
      go_enter Tryz.func38, Tryz.ntmps38
      go_wp2
      go_ret
      exact ⟨ret_bool (by simp [h1, h2]), rfl⟩
  · go_enter Tryz.func38, Tryz.ntmps38
    go_wp2
    go_ret
    refine ⟨ret_bool ?_, rfl⟩
    rw [Bool.eq_iff_iff]; simp; omega

def nameByte (c : UInt8) : Bool := decide (97 ≤ c.toNat ∧ c.toNat ≤ 122 ∨ 48 ≤ c.toNat ∧ c.toNat ≤ 57 ∨ c.toNat = 45)

set_option maxHeartbeats 400000 in
theorem byte_any (c : UInt8) (w : World) :
    Calls Tryz.prog 98 #[.int .u8 c.toNat] w fun e w' => e = .returned (.bool (nameByte c)) ∧ w' = w := by
  have hc := c.toNat_lt
  generalize hb : nameByte c = b
  have hb' : b = decide (97 ≤ c.toNat ∧ c.toNat ≤ 122 ∨ 48 ≤ c.toNat ∧ c.toNat ≤ 57 ∨ c.toNat = 45) := by rw [← hb]; rfl
  clear hb
  generalize c.toNat = x at *
  have H : Hid (b = decide (97 ≤ x ∧ x ≤ 122 ∨ 48 ≤ x ∧ x ≤ 57 ∨ x = 45)) := hb'
  clear hb'
  go_enter Tryz.func98, Tryz.ntmps98
  go_wp2
  all_goals go_ret
  all_goals refine ⟨ret_bool ?_, rfl⟩
  all_goals rw [H.out]
  all_goals (rw [Bool.eq_iff_iff]; simp; omega)

def allB (p : UInt8 → Bool) (s : ByteArray) : Bool := s.data.toList.all p

theorem take_snoc (s : ByteArray) (k : Nat) (h : k < s.size) : s.data.toList.take (k + 1) = s.data.toList.take k ++ [s[k]] := by
  rw [List.take_succ_eq_append_getElem (by simpa using h)]; rfl

/-- what a walk over bytes finds: all of them, or one that is not so -/
theorem all_stop {p : UInt8 → Bool} {s : ByteArray} {k : Nat} (h : k < s.size) (hp : p s[k] = false) : allB p s = false := by
  unfold allB
  rw [List.all_eq_false]
  exact ⟨s[k], by simp only [Array.mem_toList_iff]; exact Array.getElem_mem h, by simp [hp]⟩
theorem all_end {p : UInt8 → Bool} {s : ByteArray} {k : Nat} (h : (s.data.toList.take k).all p = true) (hk : s.size ≤ k) : allB p s = true := by
  unfold allB
  rwa [List.take_of_length_le (by simpa using hk)] at h
theorem all_step {p : UInt8 → Bool} {s : ByteArray} {k : Nat} (h : (s.data.toList.take k).all p = true) (hk : k < s.size) (hp : p s[k] = true) : (s.data.toList.take (k + 1)).all p = true := by
  rw [take_snoc s k hk, List.all_append, h]; simp [hp]

theorem nameByte_iff (c : UInt8) : nameByte c = true ↔ (97 ≤ (c.toNat : Int) ∧ (c.toNat : Int) ≤ 122 ∨ 48 ≤ (c.toNat : Int) ∧ (c.toNat : Int) ≤ 57 ∨ (c.toNat : Int) = 45) := by
  unfold nameByte; simp; omega

set_option maxHeartbeats 400000 in
theorem nameBytes_any (s : ByteArray) (w : World) (hs : s.size ≤ maxLen) :
    Calls Tryz.prog 170 #[.string s] w fun e w' => e = .returned (.bool (allB nameByte s)) ∧ w' = w := by
  unfold maxLen at hs
  go_enter Tryz.func170, Tryz.ntmps170
  go_wp2
  go_loop [7] (fun i => ∃ k : Nat, k ≤ s.size ∧ i = .int .i64 k ∧ (s.data.toList.take k).all nameByte = true) (fun i => s.size - (intOf i).toNat)
  case atStart => exact ⟨0, Nat.zero_le _, rfl, rfl⟩
  case round =>
    obtain ⟨k, hk, rfl, hall⟩ := hrel
    have HA : Hid ((s.data.toList.take k).all nameByte = true) := hall
    clear hall
    by_cases hlt : k < s.size
    · have hsn := nameByte_iff s[k]
      have HS : Hid (nameByte s[k] = true ↔ (97 ≤ (s[k].toNat : Int) ∧ (s[k].toNat : Int) ≤ 122 ∨ 48 ≤ (s[k].toNat : Int) ∧ (s[k].toNat : Int) ≤ 57 ∨ (s[k].toNat : Int) = 45)) := hsn
      clear hsn
      go_wp2
      all_goals try simp only [bne_iff_ne, ne_eq, bne_eq_false_iff_eq] at *
      all_goals first
        | (go_round
           case rel => exact ⟨k + 1, by omega, by go_num, all_step HA.out hlt (HS.out.2 (by omega))⟩
           case measure => simp [intOf]; omega)
        | (go_ret
           exact ⟨ret_bool (all_stop hlt (Bool.eq_false_iff.2 fun h => by have := HS.out.1 h; omega)).symm, rfl⟩)
    · go_wp2
      go_ret
      exact ⟨ret_bool (all_end HA.out (by omega)).symm, rfl⟩

def nameB (s : ByteArray) : Bool := inB 1 16 s.size && allB nameByte s

set_option maxHeartbeats 400000 in
theorem isName_any (s : ByteArray) (w : World) (hs : s.size ≤ maxLen) :
    Calls Tryz.prog 110 #[.string s] w fun e w' => e = .returned (.bool (nameB s)) ∧ w' = w := by
  have hk := nameBytes_any s w hs
  unfold maxLen at hs
  by_cases h1 : 1 ≤ (s.size : Int)
  · by_cases h2 : (s.size : Int) ≤ 16
    · have HB : Hid (nameB s = allB nameByte s) := by unfold Hid nameB inB; simp; intro h; omega
      go_enter Tryz.func110, Tryz.ntmps110
      go_wp2_with (go_at_call 170; refine hk.mono ?_; rintro e w' ⟨rfl, rfl⟩)
      go_ret
      exact ⟨ret_bool HB.out.symm, rfl⟩
    · have HB : Hid (nameB s = false) := by unfold Hid nameB inB; simp; intro h; omega
      go_enter Tryz.func110, Tryz.ntmps110
      go_wp2
      go_ret
      exact ⟨ret_bool HB.out.symm, rfl⟩
  · have HB : Hid (nameB s = false) := by unfold Hid nameB inB; simp; intro h; omega
    go_enter Tryz.func110, Tryz.ntmps110
    go_wp2
    go_ret
    exact ⟨ret_bool HB.out.symm, rfl⟩

set_option maxHeartbeats 400000 in
theorem nameOk_any (s : ByteArray) (w : World) (hs : s.size ≤ maxLen) :
    Calls Tryz.prog 37 #[.string s] w fun e w' => e = .returned (.bool (nameB s)) ∧ w' = w := by
  unfold maxLen at hs
  by_cases h1 : inB 1 16 s.size = true
  · have HB : Hid (nameB s = allB nameByte s) := by unfold Hid nameB; simp [h1]
    go_enter Tryz.func37, Tryz.ntmps37
    go_wp2_with (go_at_call 38; refine (in_any _ _ _ _).mono ?_; rintro e w' ⟨rfl, rfl⟩)
    go_loop [3] (fun i => ∃ k : Nat, k ≤ s.size ∧ i = .int .i64 k ∧ (s.data.toList.take k).all nameByte = true) (fun i => s.size - (intOf i).toNat)
    case atStart => exact ⟨0, Nat.zero_le _, rfl, rfl⟩
    case round =>
      obtain ⟨k, hk, rfl, hall⟩ := hrel
      have HA : Hid ((s.data.toList.take k).all nameByte = true) := hall
      clear hall
      by_cases hlt : k < s.size
      · by_cases hn : nameByte s[k] = true
        · go_wp2_with (go_at_call 98; refine (byte_any _ _).mono ?_; rintro e w' ⟨rfl, rfl⟩)
          go_round
          case rel => exact ⟨k + 1, by omega, by go_num, all_step HA.out hlt hn⟩
          case measure => simp [intOf]; omega
        · have hn' : nameByte s[k] = false := by simpa using hn
          go_wp2_with (go_at_call 98; refine (byte_any _ _).mono ?_; rintro e w' ⟨rfl, rfl⟩)
          go_ret
          exact ⟨ret_bool (by rw [HB.out, all_stop hlt hn']), rfl⟩
      · go_wp2
        go_ret
        exact ⟨ret_bool (by rw [HB.out, all_end HA.out (by omega)]), rfl⟩
  · have h1' : inB 1 16 s.size = false := by simpa using h1
    have HB : Hid (nameB s = false) := by unfold Hid nameB; simp [h1']
    go_enter Tryz.func37, Tryz.ntmps37
    go_wp2_with (go_at_call 38; refine (in_any _ _ _ _).mono ?_; rintro e w' ⟨rfl, rfl⟩)
    go_ret
    exact ⟨ret_bool HB.out.symm, rfl⟩
end Go.Proofs.YtfohnageehneoaaGreat

namespace Go.Proofs.YtfohnageehneoaaGreat
open Go.RowKit

theorem ret_int {a b : Int} (h : a = b) : Ending.returned (.int .i64 a) = .returned (.int .i64 b) := by rw [h]

def digit (c : UInt8) : Bool := decide (48 ≤ c.toNat ∧ c.toNat ≤ 57)
theorem digit_iff (c : UInt8) : digit c = true ↔ (48 ≤ (c.toNat : Int) ∧ (c.toNat : Int) ≤ 57) := by
  unfold digit; simp; omega
def valOf (l : List UInt8) : Int := l.foldl (fun n c => 10 * n + ((c.toNat : Int) - 48)) 0
theorem valOf_snoc (l : List UInt8) (c : UInt8) : valOf (l ++ [c]) = 10 * valOf l + ((c.toNat : Int) - 48) := by
  unfold valOf; rw [List.foldl_append]; rfl
theorem valOf_take_succ (s : ByteArray) (k : Nat) (h : k < s.size) : valOf (s.data.toList.take (k + 1)) = 10 * valOf (s.data.toList.take k) + ((s[k].toNat : Int) - 48) := by
  rw [take_snoc s k h, valOf_snoc]
theorem valOf_take_pow (s : ByteArray) (k : Nat) : k ≤ s.size → (s.data.toList.take k).all digit = true → 0 ≤ valOf (s.data.toList.take k) ∧ valOf (s.data.toList.take k) < 10 ^ k := by
  induction k with
  | zero => intro _ _; simp [valOf]
  | succ k ih =>
    intro hk h
    rw [take_snoc s k (by omega), List.all_append] at h
    simp only [Bool.and_eq_true, List.all_cons, List.all_nil, Bool.and_true] at h
    obtain ⟨i1, i2⟩ := ih (by omega) h.1
    have hd := (digit_iff _).1 h.2
    rw [valOf_take_succ s k (by omega), Int.pow_succ]
    omega
theorem valOf_take_bd (s : ByteArray) (k : Nat) (hk : k ≤ s.size) (h7 : s.size ≤ 7) (h : (s.data.toList.take k).all digit = true) : 0 ≤ valOf (s.data.toList.take k) ∧ valOf (s.data.toList.take k) < 10000000 := by
  obtain ⟨h0, h1⟩ := valOf_take_pow s k hk h
  refine ⟨h0, ?_⟩
  have : k = 0 ∨ k = 1 ∨ k = 2 ∨ k = 3 ∨ k = 4 ∨ k = 5 ∨ k = 6 ∨ k = 7 := by omega
  generalize valOf (s.data.toList.take k) = v at *
  rcases this with rfl | rfl | rfl | rfl | rfl | rfl | rfl | rfl <;> simp at h1 <;> omega

/-- no needless zero ahead -/
def headOk (s : ByteArray) : Bool := !(decide (1 < s.size) && (s.data.toList.head? == some 48))
theorem head_of (s : ByteArray) (h : 0 < s.size) : s.data.toList.head? = some s[0] := by
  have : 0 < s.data.toList.length := by simpa using h
  rw [List.head?_eq_getElem?, List.getElem?_eq_getElem this]; rfl
theorem headOk_bad (s : ByteArray) (h : 0 < s.size) (h1 : 1 < s.size) (hz : ((s[0].toNat : Int) == 48) = true) : headOk s = false := by
  have e : s[0] = 48 := by
    have h48 : (s[0].toNat : Int) = 48 := by simpa using hz
    exact UInt8.toNat_inj.1 (by show s[0].toNat = 48; omega)
  unfold headOk; rw [head_of s h, e]; simp [h1]
theorem headOk_good (s : ByteArray) (h : 0 < s.size) (hz : ((s[0].toNat : Int) == 48) = false) : headOk s = true := by
  have e : s[0] ≠ 48 := by
    intro e; rw [e] at hz; simp at hz
  unfold headOk; rw [head_of s h]; simp [e]
theorem headOk_one (s : ByteArray) (h : s.size ≤ 1) : headOk s = true := by
  unfold headOk; simp; omega

def decB (s : ByteArray) : Bool := inB 1 7 s.size && headOk s && allB digit s
def decV (s : ByteArray) : Int := valOf s.data.toList
def numV (s : ByteArray) : Int := if decB s = true then decV s else -1
theorem decB_of {s : ByteArray} (h1 : inB 1 7 s.size = true) (h2 : headOk s = true) : decB s = allB digit s := by unfold decB; simp [h1, h2]
theorem numV_no {s : ByteArray} (h : decB s = false) : numV s = -1 := by unfold numV; simp [h]
theorem numV_yes {s : ByteArray} (h : decB s = true) : numV s = decV s := by unfold numV; simp [h]
theorem decV_take {s : ByteArray} {k : Nat} (h : s.size ≤ k) : valOf (s.data.toList.take k) = decV s := by
  unfold decV; rw [List.take_of_length_le (by simpa using h)]

set_option maxHeartbeats 1000000 in
theorem l1Number_any (s : ByteArray) (w : World) (hs : s.size ≤ maxLen) :
    Calls Tryz.prog 176 #[.string s] w fun e w' => e = .returned (.int .i64 (numV s)) ∧ w' = w := by
  unfold maxLen at hs
  by_cases h1 : inB 1 7 s.size = true
  · have hb : 1 ≤ s.size ∧ s.size ≤ 7 := by have := h1; unfold inB at this; simp at this; omega
    obtain ⟨hb1, hb2⟩ := hb
    have hb0 : 0 < s.size := by omega
    have fin : ∀ (hh : Hid (headOk s = true)), Hid (decB s = allB digit s) := fun hh => decB_of h1 hh.out
    by_cases hbad : 1 < s.size ∧ ((s[0].toNat : Int) == 48) = true
    · obtain ⟨hb3, hz⟩ := hbad
      have HB : Hid (numV s = -1) := numV_no (by unfold decB; rw [headOk_bad s hb0 hb3 hz]; simp)
      clear fin
      go_enter Tryz.func176, Tryz.ntmps176
      go_wp2_with (go_at_call 38; refine (in_any _ _ _ _).mono ?_; rintro e w' ⟨rfl, rfl⟩)
      go_ret
      exact ⟨ret_int HB.out.symm, rfl⟩
    · have HD : Hid (decB s = allB digit s) := by
        refine fin ?_
        by_cases h2 : 1 < s.size
        · exact headOk_good s hb0 (by simpa [h2] using hbad)
        · exact headOk_one s (by omega)
      clear fin
      have hq : s.size = 1 ∨ (1 < s.size ∧ ((s[0].toNat : Int) == 48) = false) := by
        by_cases h2 : 1 < s.size
        · exact Or.inr ⟨h2, by simpa [h2] using hbad⟩
        · left; omega
      clear hbad
      have hq' : Hid (¬ 1 < s.size) ∨ (1 < s.size ∧ ((s[0].toNat : Int) == 48) = false) := by
        rcases hq with hq | hq
        · left; unfold Hid; omega
        · exact Or.inr hq
      clear hq
      rcases hq' with hq | ⟨hq, hz⟩
      · replace hq : ¬ 1 < s.size := hq.out
        go_enter Tryz.func176, Tryz.ntmps176
        go_wp2_with (go_at_call 38; refine (in_any _ _ _ _).mono ?_; rintro e w' ⟨rfl, rfl⟩)
        go_loop [3, 4] (fun n i => ∃ k : Nat, k ≤ s.size ∧ i = .int .i64 k ∧ n = .int .i64 (valOf (s.data.toList.take k)) ∧ (s.data.toList.take k).all digit = true) (fun _ i => s.size - (intOf i).toNat)
        case atStart => exact ⟨0, Nat.zero_le _, rfl, rfl, rfl⟩
        case round =>
          obtain ⟨k, hk, rfl, rfl, hall⟩ := hrel
          obtain ⟨v0, v1⟩ := valOf_take_bd s k hk hb2 hall
          have HA : Hid ((s.data.toList.take k).all digit = true) := hall
          clear hall
          by_cases hlt : k < s.size
          · have HV : Hid (valOf (s.data.toList.take (k + 1)) = 10 * valOf (s.data.toList.take k) + ((s[k].toNat : Int) - 48)) := valOf_take_succ s k hlt
            have HS : Hid (digit s[k] = true ↔ (48 ≤ (s[k].toNat : Int) ∧ (s[k].toNat : Int) ≤ 57)) := digit_iff s[k]
            go_wp2
            all_goals first
              | (go_round
                 case rel => exact ⟨k + 1, by omega, by go_num, by rw [HV.out]; go_num, all_step HA.out hlt (HS.out.2 (by omega))⟩
                 case measure => simp [intOf]; omega)
              | (go_ret
                 exact ⟨ret_int (numV_no (by rw [HD.out]; exact all_stop hlt (Bool.eq_false_iff.2 fun h => by have := HS.out.1 h; omega))).symm, rfl⟩)
          · go_wp2
            go_ret
            exact ⟨ret_int (by rw [numV_yes (by rw [HD.out]; exact all_end HA.out (by omega)), ← decV_take (k := k) (by omega)]), rfl⟩
      · go_enter Tryz.func176, Tryz.ntmps176
        go_wp2_with (go_at_call 38; refine (in_any _ _ _ _).mono ?_; rintro e w' ⟨rfl, rfl⟩)
        go_loop [3, 4] (fun n i => ∃ k : Nat, k ≤ s.size ∧ i = .int .i64 k ∧ n = .int .i64 (valOf (s.data.toList.take k)) ∧ (s.data.toList.take k).all digit = true) (fun _ i => s.size - (intOf i).toNat)
        case atStart => exact ⟨0, Nat.zero_le _, rfl, rfl, rfl⟩
        case round =>
          obtain ⟨k, hk, rfl, rfl, hall⟩ := hrel
          obtain ⟨v0, v1⟩ := valOf_take_bd s k hk hb2 hall
          have HA : Hid ((s.data.toList.take k).all digit = true) := hall
          clear hall
          by_cases hlt : k < s.size
          · have HV : Hid (valOf (s.data.toList.take (k + 1)) = 10 * valOf (s.data.toList.take k) + ((s[k].toNat : Int) - 48)) := valOf_take_succ s k hlt
            have HS : Hid (digit s[k] = true ↔ (48 ≤ (s[k].toNat : Int) ∧ (s[k].toNat : Int) ≤ 57)) := digit_iff s[k]
            go_wp2
            all_goals first
              | (go_round
                 case rel => exact ⟨k + 1, by omega, by go_num, by rw [HV.out]; go_num, all_step HA.out hlt (HS.out.2 (by omega))⟩
                 case measure => simp [intOf]; omega)
              | (go_ret
                 exact ⟨ret_int (numV_no (by rw [HD.out]; exact all_stop hlt (Bool.eq_false_iff.2 fun h => by have := HS.out.1 h; omega))).symm, rfl⟩)
          · go_wp2
            go_ret
            exact ⟨ret_int (by rw [numV_yes (by rw [HD.out]; exact all_end HA.out (by omega)), ← decV_take (k := k) (by omega)]), rfl⟩
  · have h1' : inB 1 7 s.size = false := by simpa using h1
    have HB : Hid (numV s = -1) := numV_no (by unfold decB; simp [h1'])
    go_enter Tryz.func176, Tryz.ntmps176
    go_wp2_with (go_at_call 38; refine (in_any _ _ _ _).mono ?_; rintro e w' ⟨rfl, rfl⟩)
    go_ret
    exact ⟨ret_int HB.out.symm, rfl⟩
end Go.Proofs.YtfohnageehneoaaGreat

namespace Go.Proofs.YtfohnageehneoaaGreat
open Go.RowKit

theorem empty_yes {s : ByteArray} (h : s.size = 0) : s.toList.isEmpty = true := by
  rw [ByteArray.toList_eq, List.isEmpty_iff_length_eq_zero]; simpa using h
theorem empty_no {s : ByteArray} (h : 0 < s.size) : s.toList.isEmpty = false := by
  rw [ByteArray.toList_eq, List.isEmpty_eq_false_iff_exists_mem]
  exact ⟨s[0], by simp only [Array.mem_toList_iff]; exact Array.getElem_mem h⟩

def decR (s : ByteArray) : Int := if decB s = true then decV s else 0
theorem decR_no {s : ByteArray} (h : decB s = false) : decR s = 0 := by unfold decR; simp [h]
theorem decR_yes {s : ByteArray} (h : decB s = true) : decR s = decV s := by unfold decR; simp [h]
theorem ret_dec {a c : Int} {b d : Bool} (h : a = c) (h' : b = d) : Ending.returned (.tuple #[.int .i64 a, .bool b]) = .returned (.tuple #[.int .i64 c, .bool d]) := by rw [h, h']

set_option maxHeartbeats 1000000 in
theorem gateDecimal_any (s : ByteArray) (w : World) (hs : s.size ≤ maxLen) :
    Calls Tryz.prog 247 #[.string s] w fun e w' => e = .returned (.tuple #[.int .i64 (decR s), .bool (decB s)]) ∧ w' = w := by
  unfold maxLen at hs
  by_cases hb0 : 0 < s.size
  · have he := empty_no hb0
    by_cases hb2 : s.size ≤ 7
    · have h1 : Hid (inB 1 7 s.size = true) := by unfold Hid inB; simp; omega
      by_cases hz : ((s[0].toNat : Int) == 48) = true
      · by_cases hb3 : 1 < s.size
        · have HB : Hid (decB s = false) := by unfold Hid decB; rw [headOk_bad s hb0 hb3 hz]; simp
          go_enter Tryz.func247, Tryz.ntmps247
          go_wp2
          go_ret2
          exact ⟨ret_dec (decR_no HB.out).symm HB.out.symm, rfl⟩
        · have HD : Hid (decB s = allB digit s) := decB_of h1.out (headOk_one s (by omega))
          clear h1
          go_enter Tryz.func247, Tryz.ntmps247
          go_wp2
          go_loop [4, 25] (fun n i => ∃ k : Nat, k ≤ s.size ∧ i = .int .i64 k ∧ n = .int .i64 (valOf (s.data.toList.take k)) ∧ (s.data.toList.take k).all digit = true) (fun _ i => s.size - (intOf i).toNat)
          case atStart => exact ⟨0, Nat.zero_le _, rfl, rfl, rfl⟩
          case round =>
            obtain ⟨k, hk, rfl, rfl, hall⟩ := hrel
            obtain ⟨v0, v1⟩ := valOf_take_bd s k hk hb2 hall
            have HA : Hid ((s.data.toList.take k).all digit = true) := hall
            clear hall
            by_cases hlt : k < s.size
            · have HV : Hid (valOf (s.data.toList.take (k + 1)) = 10 * valOf (s.data.toList.take k) + ((s[k].toNat : Int) - 48)) := valOf_take_succ s k hlt
              have HS : Hid (digit s[k] = true ↔ (48 ≤ (s[k].toNat : Int) ∧ (s[k].toNat : Int) ≤ 57)) := digit_iff s[k]
              go_wp2
              all_goals first
                | (go_round
                   case rel => exact ⟨k + 1, by omega, by go_num, by rw [HV.out], all_step HA.out hlt (HS.out.2 (by omega))⟩
                   case measure => simp [intOf]; omega)
                | (go_ret2
                   have HN : decB s = false := by rw [HD.out]; exact all_stop hlt (Bool.eq_false_iff.2 fun h => by have := HS.out.1 h; omega)
                   exact ⟨ret_dec (decR_no HN).symm HN.symm, rfl⟩)
            · go_wp2
              go_ret2
              have HN : decB s = true := by rw [HD.out]; exact all_end HA.out (by omega)
              exact ⟨ret_dec (by rw [decR_yes HN, ← decV_take (k := k) (by omega)]) HN.symm, rfl⟩
      · have hz' : ((s[0].toNat : Int) == 48) = false := by simpa using hz
        have HD : Hid (decB s = allB digit s) := decB_of h1.out (headOk_good s hb0 hz')
        clear h1 hz
        go_enter Tryz.func247, Tryz.ntmps247
        go_wp2
        go_loop [4, 25] (fun n i => ∃ k : Nat, k ≤ s.size ∧ i = .int .i64 k ∧ n = .int .i64 (valOf (s.data.toList.take k)) ∧ (s.data.toList.take k).all digit = true) (fun _ i => s.size - (intOf i).toNat)
        case atStart => exact ⟨0, Nat.zero_le _, rfl, rfl, rfl⟩
        case round =>
          obtain ⟨k, hk, rfl, rfl, hall⟩ := hrel
          obtain ⟨v0, v1⟩ := valOf_take_bd s k hk hb2 hall
          have HA : Hid ((s.data.toList.take k).all digit = true) := hall
          clear hall
          by_cases hlt : k < s.size
          · have HV : Hid (valOf (s.data.toList.take (k + 1)) = 10 * valOf (s.data.toList.take k) + ((s[k].toNat : Int) - 48)) := valOf_take_succ s k hlt
            have HS : Hid (digit s[k] = true ↔ (48 ≤ (s[k].toNat : Int) ∧ (s[k].toNat : Int) ≤ 57)) := digit_iff s[k]
            go_wp2
            all_goals first
              | (go_round
                 case rel => exact ⟨k + 1, by omega, by go_num, by rw [HV.out], all_step HA.out hlt (HS.out.2 (by omega))⟩
                 case measure => simp [intOf]; omega)
              | (go_ret2
                 have HN : decB s = false := by rw [HD.out]; exact all_stop hlt (Bool.eq_false_iff.2 fun h => by have := HS.out.1 h; omega)
                 exact ⟨ret_dec (decR_no HN).symm HN.symm, rfl⟩)
          · go_wp2
            go_ret2
            have HN : decB s = true := by rw [HD.out]; exact all_end HA.out (by omega)
            exact ⟨ret_dec (by rw [decR_yes HN, ← decV_take (k := k) (by omega)]) HN.symm, rfl⟩
    · have HB : Hid (decB s = false) := by unfold Hid decB inB; simp; intro h; omega
      go_enter Tryz.func247, Tryz.ntmps247
      go_wp2
      go_ret2
      exact ⟨ret_dec (decR_no HB.out).symm HB.out.symm, rfl⟩
  · have he := empty_yes (s := s) (by omega)
    have HB : Hid (decB s = false) := by unfold Hid decB inB; simp; intro h; omega
    go_enter Tryz.func247, Tryz.ntmps247
    go_wp2
    go_ret2
    exact ⟨ret_dec (decR_no HB.out).symm HB.out.symm, rfl⟩

def textByte (c : UInt8) : Bool := decide (33 ≤ c.toNat ∧ c.toNat ≤ 126)
theorem textByte_iff (c : UInt8) : textByte c = true ↔ (33 ≤ (c.toNat : Int) ∧ (c.toNat : Int) ≤ 126) := by
  unfold textByte; simp; omega
def textB (lo hi : Int) (s : ByteArray) : Bool := decide (0 < s.size) && inB lo hi s.size && allB textByte s
theorem textB_size {lo hi : Int} {s : ByteArray} (h : ¬ (0 < s.size ∧ lo ≤ s.size ∧ (s.size : Int) ≤ hi)) : textB lo hi s = false := by
  unfold textB inB; rw [Bool.eq_false_iff]; simp; intro a b c; exact absurd ⟨a, b, c⟩ h
theorem textB_all {lo hi : Int} {s : ByteArray} (h0 : 0 < s.size) (h1 : lo ≤ s.size) (h2 : (s.size : Int) ≤ hi) : textB lo hi s = allB textByte s := by
  unfold textB inB; simp [h0, h1, h2]

set_option maxHeartbeats 1000000 in
theorem textFits_any (lo hi : Int) (s : ByteArray) (w : World) (hs : s.size ≤ maxLen) :
    Calls Tryz.prog 341 #[.agg #[.int .i64 lo, .int .i64 hi], .string s] w fun e w' => e = .returned (.bool (textB lo hi s)) ∧ Below w.heap.size w w' := by
  unfold maxLen at hs
  by_cases hb0 : 0 < s.size
  · have he := empty_no hb0
    by_cases h1 : lo ≤ (s.size : Int)
    · by_cases h2 : (s.size : Int) ≤ hi
      · have HD : Hid (textB lo hi s = allB textByte s) := textB_all hb0 h1 h2
        go_enter Tryz.func341, Tryz.ntmps341
        go_wp2

        go_loop [24] (fun i => ∃ k : Nat, k ≤ s.size ∧ i = .int .i64 k ∧ (s.data.toList.take k).all textByte = true) (fun i => s.size - (intOf i).toNat)
        case atStart => exact ⟨0, Nat.zero_le _, rfl, rfl⟩
        case round =>
          obtain ⟨k, hk, rfl, hall⟩ := hrel
          have HA : Hid ((s.data.toList.take k).all textByte = true) := hall
          clear hall
          by_cases hlt : k < s.size
          · have HS : Hid (textByte s[k] = true ↔ (33 ≤ (s[k].toNat : Int) ∧ (s[k].toNat : Int) ≤ 126)) := textByte_iff s[k]
            go_wp2
            all_goals first
              | (go_round
                 case rel => exact ⟨k + 1, by omega, by go_num, all_step HA.out hlt (HS.out.2 (by omega))⟩
                 case measure => simp [intOf]; omega)
              | (go_ret
                 exact ⟨ret_bool (by rw [HD.out]; exact (all_stop hlt (Bool.eq_false_iff.2 fun h => by have := HS.out.1 h; omega)).symm), (Below.refl _ _).alloc (Nat.le_refl _) _⟩)
          · go_wp2
            go_ret
            exact ⟨ret_bool (by rw [HD.out]; exact (all_end HA.out (by omega)).symm), (Below.refl _ _).alloc (Nat.le_refl _) _⟩
      · have HB : Hid (textB lo hi s = false) := textB_size (by omega)
        go_enter Tryz.func341, Tryz.ntmps341
        go_wp2
        go_ret
        exact ⟨ret_bool HB.out.symm, (Below.refl _ _).alloc (Nat.le_refl _) _⟩
    · have HB : Hid (textB lo hi s = false) := textB_size (by omega)
      go_enter Tryz.func341, Tryz.ntmps341
      go_wp2
      go_ret
      exact ⟨ret_bool HB.out.symm, (Below.refl _ _).alloc (Nat.le_refl _) _⟩
  · have he := empty_yes (s := s) (by omega)
    have HB : Hid (textB lo hi s = false) := textB_size (by omega)
    go_enter Tryz.func341, Tryz.ntmps341
    go_wp2
    go_ret
    exact ⟨ret_bool HB.out.symm, (Below.refl _ _).alloc (Nat.le_refl _) _⟩
end Go.Proofs.YtfohnageehneoaaGreat

namespace Go.Proofs.YtfohnageehneoaaGreat
open Go.RowKit

/-- THE VALUE v IS A []string THAT HOLDS L, IN THE WORLD w. -/
def StrsAt (w : World) (v : Value) (L : List ByteArray) : Prop :=
  (∃ (a : Option Addr) (cap : Nat), v = .slice a 0 cap ∧ L = []) ∨
  ∃ (b off cap : Nat), v = .slice (some ⟨b, off, none⟩) L.length cap ∧ L ≠ [] ∧ L.length ≤ maxLen ∧ b < w.heap.size ∧
    (∀ i (h : i < L.length), w.cell? ⟨b, off + i, none⟩ = some (.string L[i])) ∧ ∀ s ∈ L, s.size ≤ maxLen

theorem StrsAt.below {w w' : World} {v : Value} {L : List ByteArray} (h : StrsAt w v L) (hb : Below w.heap.size w w') : StrsAt w' v L := by
  rcases h with h | ⟨b, off, cap, h1, h2, h3, h4, h5, h6⟩
  · exact Or.inl h
  · exact Or.inr ⟨b, off, cap, h1, h2, h3, Nat.lt_of_lt_of_le h4 hb.size, fun i hi => by rw [hb.cell (p := ⟨b, off + i, none⟩) h4]; exact h5 i hi, h6⟩

def SzOk (n : Nat) (left r : Int) : Prop := -1 ≤ r ∧ r ≤ left ∧ (0 ≤ r → (n : Int) ≤ left)

set_option maxHeartbeats 400000 in
theorem szStrs_any (v : Value) (L : List ByteArray) (left : Int) (w : World) (h0 : 0 ≤ left) (h1 : left ≤ 1048576) (hv : StrsAt w v L) :
    Calls Tryz.prog 136 #[v, .int .i64 left] w fun e w' => ∃ r : Int, e = .returned (.int .i64 r) ∧ w' = w ∧ SzOk L.length left r := by
  rcases hv with ⟨a, cap, rfl, rfl⟩ | ⟨b, off, cap, rfl, hne, hm, hbw, hc, hsz⟩
  · go_enter Tryz.func136, Tryz.ntmps136
    go_wp2
    go_loop [1, 5] (fun l i => ∃ r : Int, l = .int .i64 r ∧ 0 ≤ r ∧ r ≤ left ∧ i = .int .i64 0) (fun _ _ => 0)
    case atStart => exact ⟨_, rfl, by omega, by omega, rfl⟩
    case round =>
      obtain ⟨r, rfl, hr0, hr1, rfl⟩ := hrel
      go_wp2
      go_ret
      exact ⟨r, rfl, rfl, by omega, by omega, fun _ => by simp; omega⟩
  · unfold maxLen at hm
    by_cases hle : (L.length : Int) ≤ left
    · go_enter Tryz.func136, Tryz.ntmps136
      go_wp2
      go_loop [1, 5] (fun l i => ∃ (r : Int) (k : Nat), l = .int .i64 r ∧ 0 ≤ r ∧ r ≤ left ∧ i = .int .i64 k ∧ k ≤ L.length) (fun _ i => L.length - (intOf i).toNat)
      case atStart => exact ⟨_, 0, rfl, by omega, by omega, rfl, by omega⟩
      case round =>
        obtain ⟨r, k, rfl, hr0, hr1, rfl, hk⟩ := hrel
        by_cases hlt : k < L.length
        · have hck := hc k hlt
          have hsk := hsz L[k] (List.getElem_mem hlt)
          unfold maxLen at hsk
          go_wp2
          all_goals first
            | (go_round
               case rel => exact ⟨_, k + 1, rfl, by omega, by omega, by go_num, by omega⟩
               case measure => simp [intOf]; omega)
            | (go_ret
               exact ⟨-1, rfl, rfl, by omega, by omega, fun h => by omega⟩)
        · go_wp2
          go_ret
          exact ⟨r, rfl, rfl, by omega, by omega, fun _ => hle⟩
    · go_enter Tryz.func136, Tryz.ntmps136
      go_wp2
      go_ret
      exact ⟨-1, rfl, rfl, by omega, by omega, fun h => by omega⟩

def hasB (L : List ByteArray) (s : ByteArray) : Bool := L.any fun x => x.toList == s.toList
theorem has_stop {L : List ByteArray} {s : ByteArray} {k : Nat} (h : k < L.length) (hp : (L[k].toList == s.toList) = true) : hasB L s = true := by
  unfold hasB; rw [List.any_eq_true]; exact ⟨L[k], List.getElem_mem h, hp⟩
theorem has_step {L : List ByteArray} {s : ByteArray} {k : Nat} (h : hasB (L.take k) s = false) (hk : k < L.length) (hp : (L[k].toList == s.toList) = false) : hasB (L.take (k + 1)) s = false := by
  unfold hasB at *
  rw [List.take_succ_eq_append_getElem hk, List.any_append, h]; simp [hp]
theorem has_end {L : List ByteArray} {s : ByteArray} {k : Nat} (h : hasB (L.take k) s = false) (hk : L.length ≤ k) : hasB L s = false := by
  rwa [List.take_of_length_le hk] at h

set_option maxHeartbeats 400000 in
theorem l1Has_any (v : Value) (L : List ByteArray) (s : ByteArray) (w : World) (hv : StrsAt w v L) :
    Calls Tryz.prog 222 #[v, .string s] w fun e w' => e = .returned (.bool (hasB L s)) ∧ w' = w := by
  rcases hv with ⟨a, cap, rfl, rfl⟩ | ⟨b, off, cap, rfl, hne, hm, hbw, hc, hsz⟩
  · go_enter Tryz.func222, Tryz.ntmps222
    go_wp2
    go_loop [5] (fun i => i = .int .i64 0) (fun _ => 0)
    case atStart => rfl
    case round =>
      subst hrel
      go_wp2
      go_ret
      exact ⟨rfl, rfl⟩
  · unfold maxLen at hm
    go_enter Tryz.func222, Tryz.ntmps222
    go_wp2
    go_loop [5] (fun i => ∃ k : Nat, i = .int .i64 k ∧ k ≤ L.length ∧ hasB (L.take k) s = false) (fun i => L.length - (intOf i).toNat)
    case atStart => exact ⟨0, rfl, by omega, rfl⟩
    case round =>
      obtain ⟨k, rfl, hk, hh⟩ := hrel
      have HH : Hid (hasB (L.take k) s = false) := hh
      clear hh
      by_cases hlt : k < L.length
      · have hck := hc k hlt
        by_cases he : (L[k].toList == s.toList) = true
        · go_wp2
          go_ret
          exact ⟨ret_bool (has_stop hlt he).symm, rfl⟩
        · have he' : (L[k].toList == s.toList) = false := by simpa using he
          clear he
          go_wp2
          go_round
          case rel => exact ⟨k + 1, by go_num, by omega, has_step HH.out hlt he'⟩
          case measure => simp [intOf]; omega
      · go_wp2
        go_ret
        exact ⟨ret_bool (has_end HH.out (by omega)).symm, rfl⟩

set_option maxHeartbeats 400000 in
theorem index_any (v : Value) (L : List ByteArray) (s : ByteArray) (w : World) (hv : StrsAt w v L) :
    Calls Tryz.prog 284 #[v, .string s] w fun e w' => ∃ r : Int, e = .returned (.int .i64 r) ∧ w' = w ∧ decide (0 ≤ r) = hasB L s := by
  rcases hv with ⟨a, cap, rfl, rfl⟩ | ⟨b, off, cap, rfl, hne, hm, hbw, hc, hsz⟩
  · go_enter Tryz.func284, Tryz.ntmps284
    go_wp2
    go_loop [8] (fun i => i = .int .i64 0) (fun _ => 0)
    case atStart => rfl
    case round =>
      subst hrel
      go_wp2
      go_ret
      exact ⟨-1, rfl, rfl, rfl⟩
  · unfold maxLen at hm
    go_enter Tryz.func284, Tryz.ntmps284
    go_wp2
    go_loop [8] (fun i => ∃ k : Nat, i = .int .i64 k ∧ k ≤ L.length ∧ hasB (L.take k) s = false) (fun i => L.length - (intOf i).toNat)
    case atStart => exact ⟨0, rfl, by omega, rfl⟩
    case round =>
      obtain ⟨k, rfl, hk, hh⟩ := hrel
      have HH : Hid (hasB (L.take k) s = false) := hh
      clear hh
      by_cases hlt : k < L.length
      · have hck := hc k hlt
        by_cases he : (s.toList == L[k].toList) = true
        · go_wp2
          go_ret
          exact ⟨k, rfl, rfl, by rw [has_stop hlt (by rw [Bool.beq_comm]; exact he)]; simp⟩
        · have he' : (s.toList == L[k].toList) = false := by simpa using he
          clear he
          go_wp2
          go_round
          case rel => exact ⟨k + 1, by go_num, by omega, has_step HH.out hlt (by rw [Bool.beq_comm]; exact he')⟩
          case measure => simp [intOf]; omega
      · go_wp2
        go_ret
        exact ⟨-1, rfl, rfl, by rw [has_end HH.out (by omega)]; rfl⟩

set_option maxHeartbeats 400000 in
theorem contains_any (v : Value) (L : List ByteArray) (s : ByteArray) (w : World) (hv : StrsAt w v L) :
    Calls Tryz.prog 275 #[v, .string s] w fun e w' => e = .returned (.bool (hasB L s)) ∧ w' = w := by
  go_enter Tryz.func275, Tryz.ntmps275
  go_wp2_with fail
  refine (index_any v L s _ hv).mono ?_
  rintro e w1 ⟨r, rfl, rfl, hr⟩
  have HR : Hid (decide (0 ≤ r) = hasB L s) := hr
  clear hr
  go_wp2
  go_ret
  exact ⟨ret_bool HR.out, rfl⟩
end Go.Proofs.YtfohnageehneoaaGreat

namespace Go.Proofs.YtfohnageehneoaaGreat
open Go.RowKit Go.Deep

set_option maxHeartbeats 400000 in
theorem eqStrs_same (v v' : Value) (L : List ByteArray) (w : World) (hv : StrsAt w v L) (hv' : StrsAt w v' L) :
    Calls Tryz.prog 149 #[v, v'] w fun e w' => e = .returned (.bool true) ∧ Below w.heap.size w w' := by
  by_cases hL : L = []
  · subst hL
    obtain ⟨a, cap, rfl⟩ : ∃ a cap, v = .slice a 0 cap := by
      rcases hv with ⟨a, cap, h, _⟩ | ⟨b, off, cap, h, hne, _⟩
      · exact ⟨a, cap, h⟩
      · exact absurd rfl hne
    obtain ⟨a', cap', rfl⟩ : ∃ a cap, v' = .slice a 0 cap := by
      rcases hv' with ⟨a, cap, h, _⟩ | ⟨b, off, cap, h, hne, _⟩
      · exact ⟨a, cap, h⟩
      · exact absurd rfl hne
    clear hv hv'
    go_enter Tryz.func149, Tryz.ntmps149
    go_wp2
    go_loop [5] (fun i => i = .int .i64 0) (fun _ => 0)
    case atStart => rfl
    case round =>
      subst hrel
      go_wp2
      go_ret
      exact ⟨rfl, Below.refl _ _⟩
  · obtain ⟨b, off, cap, rfl, hm, hbw, hc⟩ : ∃ b off cap, v = .slice (some ⟨b, off, none⟩) L.length cap ∧ L.length ≤ maxLen ∧ b < w.heap.size ∧ ∀ i (h : i < L.length), w.cell? ⟨b, off + i, none⟩ = some (.string L[i]) := by
      rcases hv with ⟨a, cap, h, h'⟩ | ⟨b, off, cap, h, hne, hm, hbw, hc, _⟩
      · exact absurd h' hL
      · exact ⟨b, off, cap, h, hm, hbw, hc⟩
    obtain ⟨b', off', cap', rfl, _, hbw', hc'⟩ : ∃ b off cap, v' = .slice (some ⟨b, off, none⟩) L.length cap ∧ L.length ≤ maxLen ∧ b < w.heap.size ∧ ∀ i (h : i < L.length), w.cell? ⟨b, off + i, none⟩ = some (.string L[i]) := by
      rcases hv' with ⟨a, cap, h, h'⟩ | ⟨b, off, cap, h, hne, hm, hbw, hc, _⟩
      · exact absurd h' hL
      · exact ⟨b, off, cap, h, hm, hbw, hc⟩
    clear hv hv'
    unfold maxLen at hm
    go_enter Tryz.func149, Tryz.ntmps149
    go_wp2
    go_loopw [5] (fun i wr => ∃ k : Nat, i = .int .i64 k ∧ k ≤ L.length ∧ Below w.heap.size w wr) (fun i _ => L.length - (intOf i).toNat)
    case atStart => exact ⟨0, rfl, by omega, Below.refl _ _⟩
    case round =>
      obtain ⟨k, rfl, hk, hb⟩ := hrel
      by_cases hlt : k < L.length
      · have hck : wr.cell? ⟨b, off + k, none⟩ = some (.string L[k]) := by rw [hb.cell (p := ⟨b, off + k, none⟩) hbw]; exact hc k hlt
        have hck' : wr.cell? ⟨b', off' + k, none⟩ = some (.string L[k]) := by rw [hb.cell (p := ⟨b', off' + k, none⟩) hbw']; exact hc' k hlt
        go_wp2
        go_quiet (fail)
        go_wp2
        go_roundw
        case rel => exact ⟨k + 1, by go_num, by omega, below_drewN hb _⟩
        case measure => simp [intOf]; omega
      · go_wp2
        go_ret
        exact ⟨rfl, hb⟩

theorem Tryz.info9 : (Tryz.prog.info? 9).map (fun i => (i.zero, i.size, i.bytes)) = some (some (.string ⟨#[]⟩), 1, 16) := by kernel_rfl

/-- the first k of a new row are set -/
def fillF (L : List ByteArray) (k i : Nat) : Value := if i < k then .string (L.getD i ⟨#[]⟩) else .string ⟨#[]⟩
def Filled (wr : World) (B : Nat) (L : List ByteArray) (k : Nat) : Prop := wr.rowIs B 9 L.length (fillF L k)
theorem Filled.step {wr : World} {B : Nat} {L : List ByteArray} {k : Nat} (h : Filled wr B L k) (hk : k < L.length) : Filled (wr.setCell ⟨B, k, none⟩ (.string L[k])) B L (k + 1) := by
  unfold Filled at *
  refine (h.set k (.string L[k])).congr fun i hi => ?_
  unfold fillF
  by_cases e : i = k
  · subst e; simp [hk]
  · by_cases e2 : i < k
    · simp [e, e2, Nat.lt_succ_of_lt e2]
    · have : ¬ i < k + 1 := by omega
      simp [e, e2, this]
theorem Filled.old {wr : World} {B : Nat} {L : List ByteArray} {k : Nat} (h : Filled wr B L k) (hk : k < L.length) : ∃ v, wr.cell? ⟨B, k, none⟩ = some v := ⟨_, World.rowIs.cell h hk⟩
theorem Filled.frozen {wr : World} {B : Nat} {L : List ByteArray} {k : Nat} (h : Filled wr B L k) (i : Nat) : wr.frozen? ⟨B, i, none⟩ = false := World.rowIs.frozen h i
/-- .. AND ITS CELLS LIE FROM BLOCK lo ON. -/
def StrsIn (lo : Nat) (w : World) (v : Value) (L : List ByteArray) : Prop :=
  (∃ (a : Option Addr) (cap : Nat), v = .slice a 0 cap ∧ L = []) ∨
  ∃ (b off cap : Nat), v = .slice (some ⟨b, off, none⟩) L.length cap ∧ L ≠ [] ∧ L.length ≤ maxLen ∧ b < w.heap.size ∧
    (∀ i (h : i < L.length), w.cell? ⟨b, off + i, none⟩ = some (.string L[i])) ∧ (∀ s ∈ L, s.size ≤ maxLen) ∧ lo ≤ b
theorem StrsIn.at {lo : Nat} {w : World} {v : Value} {L : List ByteArray} (h : StrsIn lo w v L) : StrsAt w v L := by
  rcases h with h | ⟨b, off, cap, h1, h2, h3, h4, h5, h6, _⟩
  · exact Or.inl h
  · exact Or.inr ⟨b, off, cap, h1, h2, h3, h4, h5, h6⟩
theorem StrsIn.mono {lo lo' : Nat} {w : World} {v : Value} {L : List ByteArray} (h : StrsIn lo w v L) (hl : lo' ≤ lo) : StrsIn lo' w v L := by
  rcases h with h | ⟨b, off, cap, h1, h2, h3, h4, h5, h6, h7⟩
  · exact Or.inl h
  · exact Or.inr ⟨b, off, cap, h1, h2, h3, h4, h5, h6, Nat.le_trans hl h7⟩
theorem StrsIn.below {lo : Nat} {w w' : World} {v : Value} {L : List ByteArray} (h : StrsIn lo w v L) (hb : Below w.heap.size w w') : StrsIn lo w' v L := by
  rcases h with h | ⟨b, off, cap, h1, h2, h3, h4, h5, h6, h7⟩
  · exact Or.inl h
  · exact Or.inr ⟨b, off, cap, h1, h2, h3, Nat.lt_of_lt_of_le h4 hb.size, fun i hi => by rw [hb.cell (p := ⟨b, off + i, none⟩) h4]; exact h5 i hi, h6, h7⟩
theorem cell_setCell_ne (w : World) (p q : Addr) (u : Value) (h : q.block ≠ p.block) : (w.setCell p u).cell? q = w.cell? q :=
  World.cell?_of_block (w := w) (Below.heap_setCell w p u q.block h)
theorem StrsIn.setCell {lo : Nat} {w : World} {v : Value} {L : List ByteArray} (h : StrsIn lo w v L) {p : Addr} (hp : p.block < lo) (u : Value) : StrsIn lo (w.setCell p u) v L := by
  rcases h with h | ⟨b, off, cap, h1, h2, h3, h4, h5, h6, h7⟩
  · exact Or.inl h
  · exact Or.inr ⟨b, off, cap, h1, h2, h3, by simpa [World.setCell] using h4, fun i hi => by rw [cell_setCell_ne _ _ _ _ (by show b ≠ p.block; omega)]; exact h5 i hi, h6, h7⟩
theorem StrsIn.form {lo : Nat} {w : World} {v : Value} {L : List ByteArray} (h : StrsIn lo w v L) : ∃ a n cap, v = .slice a n cap := by
  rcases h with ⟨a, cap, h, _⟩ | ⟨b, off, cap, h, _⟩
  · exact ⟨a, _, cap, h⟩
  · exact ⟨_, _, cap, h⟩
theorem StrsAt.form {w : World} {v : Value} {L : List ByteArray} (h : StrsAt w v L) : ∃ a n cap, v = .slice a n cap := by
  rcases h with ⟨a, cap, h, _⟩ | ⟨b, off, cap, h, _⟩
  · exact ⟨a, _, cap, h⟩
  · exact ⟨_, _, cap, h⟩
theorem Filled.done {wr : World} {B : Nat} {L : List ByteArray} {k : Nat} (h : Filled wr B L k) (hk : L.length ≤ k) (hne : L ≠ []) (hm : L.length ≤ maxLen) (hs : ∀ s ∈ L, s.size ≤ maxLen) : StrsIn B wr (.slice (some ⟨B, 0, none⟩) L.length L.length) L := by
  refine Or.inr ⟨B, 0, L.length, rfl, hne, hm, World.rowIs.lt h, fun i hi => ?_, hs, Nat.le_refl _⟩
  rw [Nat.zero_add, World.rowIs.cell h hi]
  unfold fillF
  rw [if_pos (by omega), List.getD_eq_getElem?_getD, List.getElem?_eq_getElem hi]; rfl

set_option maxHeartbeats 400000 in
theorem toStrs_any (v : Value) (L : List ByteArray) (w : World) (hv : StrsAt w v L) (hn : L.length ≤ 1048576) :
    Calls Tryz.prog 142 #[v] w fun e w' => ∃ v', e = .returned v' ∧ Below w.heap.size w w' ∧ StrsIn w.heap.size w' v' L := by
  rcases hv with ⟨a, cap, rfl, rfl⟩ | ⟨b, off, cap, rfl, hne, hm, hbw, hc, hsz⟩
  · have hmk : ∀ u : World, (Instr.makeSlice 59 (.int .i64 0) (.int .i64 0)).run Tryz.prog u = .ok (.slice (some ⟨u.heap.size, 0, none⟩) 0 0) (u.alloc (.cells (madeCells #[.string ⟨#[]⟩] 0) 9)) :=
      fun u => run_make_row' 59 9 (.string ⟨#[]⟩) 16 Tryz.underlying59 Tryz.info9 rfl .i64 .i64 0 (by omega) (by omega) u
    go_enter Tryz.func142, Tryz.ntmps142
    go_wp2
    go_loop [4] (fun i => i = .int .i64 0) (fun _ => 0)
    case atStart => rfl
    case round =>
      subst hrel
      go_wp2
      go_ret
      exact ⟨_, rfl, (Below.refl _ _).alloc (Nat.le_refl _) _, Or.inl ⟨_, _, rfl, rfl⟩⟩
  · have HM : Hid (L.length ≤ maxLen) := hm
    unfold maxLen at hm
    have hmk : ∀ u : World, (Instr.makeSlice 59 (.int .i64 (L.length : Int)) (.int .i64 (L.length : Int))).run Tryz.prog u = .ok (.slice (some ⟨u.heap.size, 0, none⟩) L.length L.length) (u.alloc (.cells (madeCells #[.string ⟨#[]⟩] L.length) 9)) :=
      fun u => run_make_row' 59 9 (.string ⟨#[]⟩) 16 Tryz.underlying59 Tryz.info9 rfl .i64 .i64 L.length (by omega) (by omega) u
    go_enter Tryz.func142, Tryz.ntmps142
    go_wp2
    clear hmk
    go_loopw [4] (fun i wr => ∃ k : Nat, i = .int .i64 k ∧ k ≤ L.length ∧ Below w.heap.size w wr ∧ Filled wr w.heap.size L k) (fun i _ => L.length - (intOf i).toNat)
    case atStart => exact ⟨0, rfl, by omega, (Below.refl _ _).alloc (Nat.le_refl _) _, World.rowIs_made w (.string ⟨#[]⟩) L.length 9⟩
    case round =>
      obtain ⟨k, rfl, hk, hb, hf⟩ := hrel
      by_cases hlt : k < L.length
      · have hck : wr.cell? ⟨b, off + k, none⟩ = some (.string L[k]) := by rw [hb.cell (p := ⟨b, off + k, none⟩) hbw]; exact hc k hlt
        obtain ⟨old, hold⟩ := hf.old hlt
        have hfz := hf.frozen k
        go_wp2
        go_roundw
        case rel => exact ⟨k + 1, by go_num, by omega, hb.setCell (Nat.le_refl _) _, hf.step hlt⟩
        case measure => simp [intOf]; omega
      · go_wp2
        go_ret
        exact ⟨_, rfl, hb, hf.done (by omega) hne HM.out hsz⟩
end Go.Proofs.YtfohnageehneoaaGreat

