import Derived.Test.YtjkkbkdpoebfaaaGreatRows
import Derived.WalkKit
import Derived.WalkSpells
import Derived.WalkLawsBesides
import Derived.Deep.QuietTactic
import Derived.BigQuiet
namespace Go.Proofs.YtjkkbkdpoebfaaaGreat
open Go.RowKit

theorem hide {p : Prop} (h : p) : Hid p := h

def inB (lo hi n : Int) : Bool := decide (lo ≤ n ∧ n ≤ hi)
theorem inB_eq (lo hi n : Int) : inB lo hi n = (decide (lo ≤ n) && decide (n ≤ hi)) := by unfold inB; simp

theorem ret_bool {a b : Bool} (h : a = b) : Ending.returned (.bool a) = .returned (.bool b) := by rw [h]

set_option maxHeartbeats 400000 in
theorem in_any (n lo hi : Int) (w : World) :
    Calls Tryz.prog 89 #[.int .i64 n, .int .i64 lo, .int .i64 hi] w fun e w' => e = .returned (.bool (inB lo hi n)) ∧ w' = w := by
  rw [inB_eq]
  by_cases h1 : lo ≤ n
  · by_cases h2 : n ≤ hi
    all_goals
      go_enter Tryz.func89, Tryz.ntmps89
      go_wp2
      go_ret
      exact ⟨ret_bool (by simp [h1, h2]), rfl⟩
  · go_enter Tryz.func89, Tryz.ntmps89
    go_wp2
    go_ret
    refine ⟨ret_bool ?_, rfl⟩
    rw [Bool.eq_iff_iff]; simp; omega

def nameByte (c : UInt8) : Bool := decide (97 ≤ c.toNat ∧ c.toNat ≤ 122 ∨ 48 ≤ c.toNat ∧ c.toNat ≤ 57 ∨ c.toNat = 45)

set_option maxHeartbeats 400000 in
theorem byte_any (c : UInt8) (w : World) :
    Calls Tryz.prog 90 #[.int .u8 c.toNat] w fun e w' => e = .returned (.bool (nameByte c)) ∧ w' = w := by
  have hc := c.toNat_lt
  generalize hb : nameByte c = b
  have hb' : b = decide (97 ≤ c.toNat ∧ c.toNat ≤ 122 ∨ 48 ≤ c.toNat ∧ c.toNat ≤ 57 ∨ c.toNat = 45) := by rw [← hb]; rfl
  clear hb
  generalize c.toNat = x at *
  have H : Hid (b = decide (97 ≤ x ∧ x ≤ 122 ∨ 48 ≤ x ∧ x ≤ 57 ∨ x = 45)) := hb'
  clear hb'
  go_enter Tryz.func90, Tryz.ntmps90
  go_wp2
  all_goals go_ret
  all_goals refine ⟨ret_bool ?_, rfl⟩
  all_goals rw [H.out]
  all_goals (rw [Bool.eq_iff_iff]; simp; omega)

def allB (p : UInt8 → Bool) (s : ByteArray) : Bool := s.data.toList.all p

theorem take_snoc (s : ByteArray) (k : Nat) (h : k < s.size) : s.data.toList.take (k + 1) = s.data.toList.take k ++ [s[k]] := by
  rw [List.take_succ_eq_append_getElem (by simpa using h)]; rfl

/-- what a walk over bytes finds: all of them, or one that is not so -/
theorem all_stop {p : UInt8 → Bool} {s : ByteArray} {k : Nat} (h : k < s.size) (hp : p s[k] = false) : allB p s = false := by
  unfold allB
  rw [List.all_eq_false]
  exact ⟨s[k], by simp only [Array.mem_toList_iff]; exact Array.getElem_mem h, by simp [hp]⟩
theorem all_end {p : UInt8 → Bool} {s : ByteArray} {k : Nat} (h : (s.data.toList.take k).all p = true) (hk : s.size ≤ k) : allB p s = true := by
  unfold allB
  rwa [List.take_of_length_le (by simpa using hk)] at h
theorem all_step {p : UInt8 → Bool} {s : ByteArray} {k : Nat} (h : (s.data.toList.take k).all p = true) (hk : k < s.size) (hp : p s[k] = true) : (s.data.toList.take (k + 1)).all p = true := by
  rw [take_snoc s k hk, List.all_append, h]; simp [hp]

theorem nameByte_iff (c : UInt8) : nameByte c = true ↔ (97 ≤ (c.toNat : Int) ∧ (c.toNat : Int) ≤ 122 ∨ 48 ≤ (c.toNat : Int) ∧ (c.toNat : Int) ≤ 57 ∨ (c.toNat : Int) = 45) := by
  unfold nameByte; simp; omega

set_option maxHeartbeats 400000 in
theorem nameBytes_any (s : ByteArray) (w : World) (hs : s.size ≤ maxLen) :
    Calls Tryz.prog 69 #[.string s] w fun e w' => e = .returned (.bool (allB nameByte s)) ∧ w' = w := by
  unfold maxLen at hs
  go_enter Tryz.func69, Tryz.ntmps69
  go_wp2
  go_loop [7] (fun i => ∃ k : Nat, k ≤ s.size ∧ i = .int .i64 k ∧ (s.data.toList.take k).all nameByte = true) (fun i => s.size - (intOf i).toNat)
  case atStart => exact ⟨0, Nat.zero_le _, rfl, rfl⟩
  case round =>
    obtain ⟨k, hk, rfl, hall⟩ := hrel
    have HA : Hid ((s.data.toList.take k).all nameByte = true) := hall
    clear hall
    by_cases hlt : k < s.size
    · have hsn := nameByte_iff s[k]
      have HS : Hid (nameByte s[k] = true ↔ (97 ≤ (s[k].toNat : Int) ∧ (s[k].toNat : Int) ≤ 122 ∨ 48 ≤ (s[k].toNat : Int) ∧ (s[k].toNat : Int) ≤ 57 ∨ (s[k].toNat : Int) = 45)) := hsn
      clear hsn
      go_wp2
      all_goals try simp only [bne_iff_ne, ne_eq, bne_eq_false_iff_eq] at *
      all_goals first
        | (go_round
           case rel => exact ⟨k + 1, by omega, by go_num, all_step HA.out hlt (HS.out.2 (by omega))⟩
           case measure => simp [intOf]; omega)
        | (go_ret
           exact ⟨ret_bool (all_stop hlt (Bool.eq_false_iff.2 fun h => by have := HS.out.1 h; omega)).symm, rfl⟩)
    · go_wp2
      go_ret
      exact ⟨ret_bool (all_end HA.out (by omega)).symm, rfl⟩

def nameB (s : ByteArray) : Bool := inB 1 16 s.size && allB nameByte s

set_option maxHeartbeats 400000 in
theorem isName_any (s : ByteArray) (w : World) (hs : s.size ≤ maxLen) :
    Calls Tryz.prog 40 #[.string s] w fun e w' => e = .returned (.bool (nameB s)) ∧ w' = w := by
  have hk := nameBytes_any s w hs
  unfold maxLen at hs
  by_cases h1 : 1 ≤ (s.size : Int)
  · by_cases h2 : (s.size : Int) ≤ 16
    · have HB : Hid (nameB s = allB nameByte s) := by unfold Hid nameB inB; simp; intro h; omega
      go_enter Tryz.func40, Tryz.ntmps40
      go_wp2_with (go_at_call 69; refine hk.mono ?_; rintro e w' ⟨rfl, rfl⟩)
      go_ret
      exact ⟨ret_bool HB.out.symm, rfl⟩
    · have HB : Hid (nameB s = false) := by unfold Hid nameB inB; simp; intro h; omega
      go_enter Tryz.func40, Tryz.ntmps40
      go_wp2
      go_ret
      exact ⟨ret_bool HB.out.symm, rfl⟩
  · have HB : Hid (nameB s = false) := by unfold Hid nameB inB; simp; intro h; omega
    go_enter Tryz.func40, Tryz.ntmps40
    go_wp2
    go_ret
    exact ⟨ret_bool HB.out.symm, rfl⟩

set_option maxHeartbeats 400000 in
theorem nameOk_any (s : ByteArray) (w : World) (hs : s.size ≤ maxLen) :
    Calls Tryz.prog 55 #[.string s] w fun e w' => e = .returned (.bool (nameB s)) ∧ w' = w := by
  unfold maxLen at hs
  by_cases h1 : inB 1 16 s.size = true
  · have HB : Hid (nameB s = allB nameByte s) := by unfold Hid nameB; simp [h1]
    go_enter Tryz.func55, Tryz.ntmps55
    go_wp2_with (go_at_call 89; refine (in_any _ _ _ _).mono ?_; rintro e w' ⟨rfl, rfl⟩)
    go_loop [3] (fun i => ∃ k : Nat, k ≤ s.size ∧ i = .int .i64 k ∧ (s.data.toList.take k).all nameByte = true) (fun i => s.size - (intOf i).toNat)
    case atStart => exact ⟨0, Nat.zero_le _, rfl, rfl⟩
    case round =>
      obtain ⟨k, hk, rfl, hall⟩ := hrel
      have HA : Hid ((s.data.toList.take k).all nameByte = true) := hall
      clear hall
      by_cases hlt : k < s.size
      · by_cases hn : nameByte s[k] = true
        · go_wp2_with (go_at_call 90; refine (byte_any _ _).mono ?_; rintro e w' ⟨rfl, rfl⟩)
          go_round
          case rel => exact ⟨k + 1, by omega, by go_num, all_step HA.out hlt hn⟩
          case measure => simp [intOf]; omega
        · have hn' : nameByte s[k] = false := by simpa using hn
          go_wp2_with (go_at_call 90; refine (byte_any _ _).mono ?_; rintro e w' ⟨rfl, rfl⟩)
          go_ret
          exact ⟨ret_bool (by rw [HB.out, all_stop hlt hn']), rfl⟩
      · go_wp2
        go_ret
        exact ⟨ret_bool (by rw [HB.out, all_end HA.out (by omega)]), rfl⟩
  · have h1' : inB 1 16 s.size = false := by simpa using h1
    have HB : Hid (nameB s = false) := by unfold Hid nameB; simp [h1']
    go_enter Tryz.func55, Tryz.ntmps55
    go_wp2_with (go_at_call 89; refine (in_any _ _ _ _).mono ?_; rintro e w' ⟨rfl, rfl⟩)
    go_ret
    exact ⟨ret_bool HB.out.symm, rfl⟩
end Go.Proofs.YtjkkbkdpoebfaaaGreat
namespace Go.Proofs.YtjkkbkdpoebfaaaGreat
open Go.RowKit

theorem ret_int {a b : Int} (h : a = b) : Ending.returned (.int .i64 a) = .returned (.int .i64 b) := by rw [h]

def digit (c : UInt8) : Bool := decide (48 ≤ c.toNat ∧ c.toNat ≤ 57)
theorem digit_iff (c : UInt8) : digit c = true ↔ (48 ≤ (c.toNat : Int) ∧ (c.toNat : Int) ≤ 57) := by
  unfold digit; simp; omega
def valOf (l : List UInt8) : Int := l.foldl (fun n c => 10 * n + ((c.toNat : Int) - 48)) 0
theorem valOf_snoc (l : List UInt8) (c : UInt8) : valOf (l ++ [c]) = 10 * valOf l + ((c.toNat : Int) - 48) := by
  unfold valOf; rw [List.foldl_append]; rfl
theorem valOf_take_succ (s : ByteArray) (k : Nat) (h : k < s.size) : valOf (s.data.toList.take (k + 1)) = 10 * valOf (s.data.toList.take k) + ((s[k].toNat : Int) - 48) := by
  rw [take_snoc s k h, valOf_snoc]
theorem valOf_take_pow (s : ByteArray) (k : Nat) : k ≤ s.size → (s.data.toList.take k).all digit = true → 0 ≤ valOf (s.data.toList.take k) ∧ valOf (s.data.toList.take k) < 10 ^ k := by
  induction k with
  | zero => intro _ _; simp [valOf]
  | succ k ih =>
    intro hk h
    rw [take_snoc s k (by omega), List.all_append] at h
    simp only [Bool.and_eq_true, List.all_cons, List.all_nil, Bool.and_true] at h
    obtain ⟨i1, i2⟩ := ih (by omega) h.1
    have hd := (digit_iff _).1 h.2
    rw [valOf_take_succ s k (by omega), Int.pow_succ]
    omega
theorem valOf_take_bd (s : ByteArray) (k : Nat) (hk : k ≤ s.size) (h7 : s.size ≤ 7) (h : (s.data.toList.take k).all digit = true) : 0 ≤ valOf (s.data.toList.take k) ∧ valOf (s.data.toList.take k) < 10000000 := by
  obtain ⟨h0, h1⟩ := valOf_take_pow s k hk h
  refine ⟨h0, ?_⟩
  have : k = 0 ∨ k = 1 ∨ k = 2 ∨ k = 3 ∨ k = 4 ∨ k = 5 ∨ k = 6 ∨ k = 7 := by omega
  generalize valOf (s.data.toList.take k) = v at *
  rcases this with rfl | rfl | rfl | rfl | rfl | rfl | rfl | rfl <;> simp at h1 <;> omega

/-- no needless zero ahead -/
def headOk (s : ByteArray) : Bool := !(decide (1 < s.size) && (s.data.toList.head? == some 48))
theorem head_of (s : ByteArray) (h : 0 < s.size) : s.data.toList.head? = some s[0] := by
  have : 0 < s.data.toList.length := by simpa using h
  rw [List.head?_eq_getElem?, List.getElem?_eq_getElem this]; rfl
theorem headOk_bad (s : ByteArray) (h : 0 < s.size) (h1 : 1 < s.size) (hz : ((s[0].toNat : Int) == 48) = true) : headOk s = false := by
  have e : s[0] = 48 := by
    have h48 : (s[0].toNat : Int) = 48 := by simpa using hz
    exact UInt8.toNat_inj.1 (by show s[0].toNat = 48; omega)
  unfold headOk; rw [head_of s h, e]; simp [h1]
theorem headOk_good (s : ByteArray) (h : 0 < s.size) (hz : ((s[0].toNat : Int) == 48) = false) : headOk s = true := by
  have e : s[0] ≠ 48 := by
    intro e; rw [e] at hz; simp at hz
  unfold headOk; rw [head_of s h]; simp [e]
theorem headOk_one (s : ByteArray) (h : s.size ≤ 1) : headOk s = true := by
  unfold headOk; simp; omega

def decB (s : ByteArray) : Bool := inB 1 7 s.size && headOk s && allB digit s
def decV (s : ByteArray) : Int := valOf s.data.toList
def numV (s : ByteArray) : Int := if decB s = true then decV s else -1
theorem decB_of {s : ByteArray} (h1 : inB 1 7 s.size = true) (h2 : headOk s = true) : decB s = allB digit s := by unfold decB; simp [h1, h2]
theorem numV_no {s : ByteArray} (h : decB s = false) : numV s = -1 := by unfold numV; simp [h]
theorem numV_yes {s : ByteArray} (h : decB s = true) : numV s = decV s := by unfold numV; simp [h]
theorem decV_take {s : ByteArray} {k : Nat} (h : s.size ≤ k) : valOf (s.data.toList.take k) = decV s := by
  unfold decV; rw [List.take_of_length_le (by simpa using h)]

set_option maxHeartbeats 1000000 in
theorem l1Number_any (s : ByteArray) (w : World) (hs : s.size ≤ maxLen) :
    Calls Tryz.prog 93 #[.string s] w fun e w' => e = .returned (.int .i64 (numV s)) ∧ w' = w := by
  unfold maxLen at hs
  by_cases h1 : inB 1 7 s.size = true
  · have hb : 1 ≤ s.size ∧ s.size ≤ 7 := by have := h1; unfold inB at this; simp at this; omega
    obtain ⟨hb1, hb2⟩ := hb
    have hb0 : 0 < s.size := by omega
    have fin : ∀ (hh : Hid (headOk s = true)), Hid (decB s = allB digit s) := fun hh => decB_of h1 hh.out
    by_cases hbad : 1 < s.size ∧ ((s[0].toNat : Int) == 48) = true
    · obtain ⟨hb3, hz⟩ := hbad
      have HB : Hid (numV s = -1) := numV_no (by unfold decB; rw [headOk_bad s hb0 hb3 hz]; simp)
      clear fin
      go_enter Tryz.func93, Tryz.ntmps93
      go_wp2_with (go_at_call 89; refine (in_any _ _ _ _).mono ?_; rintro e w' ⟨rfl, rfl⟩)
      go_ret
      exact ⟨ret_int HB.out.symm, rfl⟩
    · have HD : Hid (decB s = allB digit s) := by
        refine fin ?_
        by_cases h2 : 1 < s.size
        · exact headOk_good s hb0 (by simpa [h2] using hbad)
        · exact headOk_one s (by omega)
      clear fin
      have hq : s.size = 1 ∨ (1 < s.size ∧ ((s[0].toNat : Int) == 48) = false) := by
        by_cases h2 : 1 < s.size
        · exact Or.inr ⟨h2, by simpa [h2] using hbad⟩
        · left; omega
      clear hbad
      have hq' : Hid (¬ 1 < s.size) ∨ (1 < s.size ∧ ((s[0].toNat : Int) == 48) = false) := by
        rcases hq with hq | hq
        · left; unfold Hid; omega
        · exact Or.inr hq
      clear hq
      rcases hq' with hq | ⟨hq, hz⟩
      · replace hq : ¬ 1 < s.size := hq.out
        go_enter Tryz.func93, Tryz.ntmps93
        go_wp2_with (go_at_call 89; refine (in_any _ _ _ _).mono ?_; rintro e w' ⟨rfl, rfl⟩)
        go_loop [3, 4] (fun n i => ∃ k : Nat, k ≤ s.size ∧ i = .int .i64 k ∧ n = .int .i64 (valOf (s.data.toList.take k)) ∧ (s.data.toList.take k).all digit = true) (fun _ i => s.size - (intOf i).toNat)
        case atStart => exact ⟨0, Nat.zero_le _, rfl, rfl, rfl⟩
        case round =>
          obtain ⟨k, hk, rfl, rfl, hall⟩ := hrel
          obtain ⟨v0, v1⟩ := valOf_take_bd s k hk hb2 hall
          have HA : Hid ((s.data.toList.take k).all digit = true) := hall
          clear hall
          by_cases hlt : k < s.size
          · have HV : Hid (valOf (s.data.toList.take (k + 1)) = 10 * valOf (s.data.toList.take k) + ((s[k].toNat : Int) - 48)) := valOf_take_succ s k hlt
            have HS : Hid (digit s[k] = true ↔ (48 ≤ (s[k].toNat : Int) ∧ (s[k].toNat : Int) ≤ 57)) := digit_iff s[k]
            go_wp2
            all_goals first
              | (go_round
                 case rel => exact ⟨k + 1, by omega, by go_num, by rw [HV.out]; go_num, all_step HA.out hlt (HS.out.2 (by omega))⟩
                 case measure => simp [intOf]; omega)
              | (go_ret
                 exact ⟨ret_int (numV_no (by rw [HD.out]; exact all_stop hlt (Bool.eq_false_iff.2 fun h => by have := HS.out.1 h; omega))).symm, rfl⟩)
          · go_wp2
            go_ret
            exact ⟨ret_int (by rw [numV_yes (by rw [HD.out]; exact all_end HA.out (by omega)), ← decV_take (k := k) (by omega)]), rfl⟩
      · go_enter Tryz.func93, Tryz.ntmps93
        go_wp2_with (go_at_call 89; refine (in_any _ _ _ _).mono ?_; rintro e w' ⟨rfl, rfl⟩)
        go_loop [3, 4] (fun n i => ∃ k : Nat, k ≤ s.size ∧ i = .int .i64 k ∧ n = .int .i64 (valOf (s.data.toList.take k)) ∧ (s.data.toList.take k).all digit = true) (fun _ i => s.size - (intOf i).toNat)
        case atStart => exact ⟨0, Nat.zero_le _, rfl, rfl, rfl⟩
        case round =>
          obtain ⟨k, hk, rfl, rfl, hall⟩ := hrel
          obtain ⟨v0, v1⟩ := valOf_take_bd s k hk hb2 hall
          have HA : Hid ((s.data.toList.take k).all digit = true) := hall
          clear hall
          by_cases hlt : k < s.size
          · have HV : Hid (valOf (s.data.toList.take (k + 1)) = 10 * valOf (s.data.toList.take k) + ((s[k].toNat : Int) - 48)) := valOf_take_succ s k hlt
            have HS : Hid (digit s[k] = true ↔ (48 ≤ (s[k].toNat : Int) ∧ (s[k].toNat : Int) ≤ 57)) := digit_iff s[k]
            go_wp2
            all_goals first
              | (go_round
                 case rel => exact ⟨k + 1, by omega, by go_num, by rw [HV.out]; go_num, all_step HA.out hlt (HS.out.2 (by omega))⟩
                 case measure => simp [intOf]; omega)
              | (go_ret
                 exact ⟨ret_int (numV_no (by rw [HD.out]; exact all_stop hlt (Bool.eq_false_iff.2 fun h => by have := HS.out.1 h; omega))).symm, rfl⟩)
          · go_wp2
            go_ret
            exact ⟨ret_int (by rw [numV_yes (by rw [HD.out]; exact all_end HA.out (by omega)), ← decV_take (k := k) (by omega)]), rfl⟩
  · have h1' : inB 1 7 s.size = false := by simpa using h1
    have HB : Hid (numV s = -1) := numV_no (by unfold decB; simp [h1'])
    go_enter Tryz.func93, Tryz.ntmps93
    go_wp2_with (go_at_call 89; refine (in_any _ _ _ _).mono ?_; rintro e w' ⟨rfl, rfl⟩)
    go_ret
    exact ⟨ret_int HB.out.symm, rfl⟩
end Go.Proofs.YtjkkbkdpoebfaaaGreat
