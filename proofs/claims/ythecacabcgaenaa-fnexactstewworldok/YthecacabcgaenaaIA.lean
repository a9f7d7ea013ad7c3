
import Derived.Test.YthecacabcgaenaaZC
import Derived.Test.YthecacabcgaenaaZV
import Derived.Test.YthecacabcgaenaaZT
import Derived.Sort.Walk0
namespace Go.Proofs.Ythecacabcgaenaa
open Go.RowKit Go.Deep

/-- how two texts stand to each other -/
def cmpS (a b : ByteArray) : Int := if Op.bytesLess a.toList b.toList = true then -1 else if (a.toList == b.toList) = true then 0 else 1
theorem less_irrefl (a : List UInt8) : Op.bytesLess a a = false := by rw [bytesLess_eq]; exact decide_eq_false (List.lt_irrefl _)
theorem less_asymm {a b : List UInt8} (h : Op.bytesLess a b = true) : Op.bytesLess b a = false := by
  rw [bytesLess_eq] at h ⊢
  exact decide_eq_false (fun h' => List.lt_irrefl _ (List.lt_trans (of_decide_eq_true h) h'))
theorem less_trans {a b c : List UInt8} (h : Op.bytesLess a b = true) (h' : Op.bytesLess b c = true) : Op.bytesLess a c = true := by
  rw [bytesLess_eq] at h h' ⊢
  exact decide_eq_true (List.lt_trans (of_decide_eq_true h) (of_decide_eq_true h'))
theorem less_tri {a b : List UInt8} (h : Op.bytesLess a b = false) (h' : Op.bytesLess b a = false) : a = b := by
  rw [bytesLess_eq] at h h'
  exact List.le_antisymm (List.not_lt.1 (of_decide_eq_false h')) (List.not_lt.1 (of_decide_eq_false h))
theorem toList_inj {a b : ByteArray} (h : a.toList = b.toList) : a = b := bytes_eq.1 (by rw [h]; simp)
theorem cmpS_self (a : ByteArray) : cmpS a a = 0 := by unfold cmpS; simp [less_irrefl]
theorem cmpS_zero {a b : ByteArray} : cmpS a b = 0 ↔ a = b := by
  refine ⟨fun h => ?_, fun h => by rw [h]; exact cmpS_self _⟩
  unfold cmpS at h
  split at h
  · omega
  · split at h
    · rename_i h2
      exact bytes_eq.1 h2
    · omega
theorem cmpS_neg {a b : ByteArray} : cmpS a b < 0 ↔ Op.bytesLess a.toList b.toList = true := by
  unfold cmpS
  split
  · rename_i h; simp [h]
  · rename_i h
    split <;> simp [h]
theorem cmpS_pos {a b : ByteArray} : 0 < cmpS a b ↔ Op.bytesLess b.toList a.toList = true := by
  unfold cmpS
  split
  · rename_i h; simp [less_asymm h]
  · rename_i h
    split
    · rename_i h2
      rw [bytes_eq.1 h2]; simp [less_irrefl]
    · rename_i h2
      have : Op.bytesLess b.toList a.toList = true := by
        cases h3 : Op.bytesLess b.toList a.toList with
        | true => rfl
        | false => exact absurd (bytes_eq.2 (toList_inj (less_tri (by simpa using h) h3))) h2
      simp [this]
theorem cmpS_bd (a b : ByteArray) : -1 ≤ cmpS a b ∧ cmpS a b ≤ 1 := by unfold cmpS; split <;> (try split) <;> omega
/-- the first that is not 0 -/
def orI (a b : Int) : Int := if a = 0 then b else a
theorem orI_zero {a b : Int} : orI a b = 0 ↔ a = 0 ∧ b = 0 := by unfold orI; split <;> omega
theorem orI_bd {a b : Int} (h : -1 ≤ a ∧ a ≤ 1) (h' : -1 ≤ b ∧ b ≤ 1) : -1 ≤ orI a b ∧ orI a b ≤ 1 := by unfold orI; split <;> omega

theorem nanS_any (a : ByteArray) (w : World) : Calls Try.prog 83 #[.string a] w fun e w' => e = .returned (.bool false) ∧ w' = w := by
  have h := bytes_refl a
  go_enter Try.func83, Try.ntmps83
  go_wp2
  go_ret
  exact ⟨rfl, rfl⟩
set_option maxHeartbeats 400000 in
theorem cmpStr_any (a b : ByteArray) (w : World) :
    Calls Try.prog 72 #[.string a, .string b] w fun e w' => e = .returned (.int .i64 (cmpS a b)) ∧ w' = w := by
  cases h1 : Op.bytesLess a.toList b.toList with
  | true =>
    have HE : Hid (cmpS a b = -1) := by unfold Hid cmpS; rw [h1]; rfl
    go_enter Try.func72, Try.ntmps72
    go_wp2_with (go_at_call 83; refine (nanS_any _ _).mono ?_; rintro e w' ⟨rfl, rfl⟩)
    go_ret
    exact ⟨ret_int HE.out.symm, rfl⟩
  | false =>
    cases h2 : (a.toList == b.toList) with
    | true =>
      have HE : Hid (cmpS a b = 0) := by unfold Hid cmpS; rw [h1, h2]; rfl
      go_enter Try.func72, Try.ntmps72
      go_wp2_with (go_at_call 83; refine (nanS_any _ _).mono ?_; rintro e w' ⟨rfl, rfl⟩)
      go_ret
      exact ⟨ret_int HE.out.symm, rfl⟩
    | false =>
      have HE : Hid (cmpS a b = 1) := by unfold Hid cmpS; rw [h1, h2]; rfl
      go_enter Try.func72, Try.ntmps72
      go_wp2_with (go_at_call 83; refine (nanS_any _ _).mono ?_; rintro e w' ⟨rfl, rfl⟩)
      go_ret
      exact ⟨ret_int HE.out.symm, rfl⟩

/-- the first of a list that is not 0 -/
def orL : List Int → Int
  | [] => 0
  | x :: r => if x = 0 then orL r else x
theorem orL_skip {L : List Int} {k : Nat} (hk : k < L.length) (h : L[k] = 0) : orL (L.drop k) = orL (L.drop (k + 1)) := by
  rw [List.drop_eq_getElem_cons hk, orL, if_pos h]
theorem orL_stop {L : List Int} {k : Nat} (hk : k < L.length) (h : L[k] ≠ 0) : orL (L.drop k) = L[k] := by
  rw [List.drop_eq_getElem_cons hk, orL, if_neg h]

theorem orL_two (a b : Int) : orL [a, b] = orI a b := by simp only [orL]; unfold orI; split <;> (try split) <;> omega
set_option maxHeartbeats 400000 in
theorem cmpOr_any (w : World) (b off cap : Nat) (L : List Int) (hm : L.length ≤ 1000) (hc : ∀ i (h : i < L.length), w.cell? ⟨b, off + i, none⟩ = some (.int .i64 L[i])) :
    Calls Try.prog 79 #[.slice (some ⟨b, off, none⟩) L.length cap] w fun e w' => e = .returned (.int .i64 (orL L)) ∧ w' = w := by
  go_enter Try.func79, Try.ntmps79
  go_wp2
  go_loop [8] (fun i => ∃ k : Nat, i = .int .i64 k ∧ k ≤ L.length ∧ orL L = orL (L.drop k)) (fun i => L.length - (intOf i).toNat)
  case atStart => exact ⟨0, rfl, by omega, by simp⟩
  case round =>
    obtain ⟨k, rfl, hk, he⟩ := hrel
    have HE := hide he
    clear he
    by_cases hlt : k < L.length
    · have c := hc k hlt
      by_cases h0 : L[k] = 0
      · have HS := hide (orL_skip hlt h0)
        have h0' : (L[k] != 0) = false := by simp [h0]
        clear h0
        go_wp2
        go_round
        case rel => exact ⟨k + 1, by go_num, by omega, HE.out.trans HS.out⟩
        case measure => simp [intOf]; omega
      · have HS := hide (orL_stop hlt h0)
        have h0' : (L[k] != 0) = true := by simp [h0]
        clear h0
        go_wp2
        go_ret
        exact ⟨ret_int (by rw [HE.out, HS.out]), rfl⟩
    · have HS : Hid (orL (L.drop k) = 0) := by unfold Hid; rw [List.drop_of_length_le (by omega)]; rfl
      go_wp2
      go_ret
      exact ⟨ret_int (by rw [HE.out, HS.out]), rfl⟩

def cmpI (a b : Int) : Int := if a < b then -1 else if b < a then 1 else 0
theorem cmpI_neg {a b : Int} : cmpI a b < 0 ↔ a < b := by unfold cmpI; split <;> (try split) <;> omega
theorem nanI_any (a : Int) (w : World) : Calls Try.prog 51 #[.int .i64 a] w fun e w' => e = .returned (.bool false) ∧ w' = w := by
  go_enter Try.func51, Try.ntmps51
  go_wp2
  go_ret
  exact ⟨rfl, rfl⟩
set_option maxHeartbeats 400000 in
theorem cmpInt_any (a b : Int) (w : World) :
    Calls Try.prog 35 #[.int .i64 a, .int .i64 b] w fun e w' => e = .returned (.int .i64 (cmpI a b)) ∧ w' = w := by
  by_cases h1 : a < b
  · have HE : Hid (cmpI a b = -1) := if_pos h1
    go_enter Try.func35, Try.ntmps35
    go_wp2_with (go_at_call 51; refine (nanI_any _ _).mono ?_; rintro e w' ⟨rfl, rfl⟩)
    go_ret
    exact ⟨ret_int HE.out.symm, rfl⟩
  · by_cases h2 : b < a
    · have HE : Hid (cmpI a b = 1) := by unfold Hid cmpI; rw [if_neg h1, if_pos h2]
      go_enter Try.func35, Try.ntmps35
      go_wp2_with (go_at_call 51; refine (nanI_any _ _).mono ?_; rintro e w' ⟨rfl, rfl⟩)
      go_ret
      exact ⟨ret_int HE.out.symm, rfl⟩
    · have HE : Hid (cmpI a b = 0) := by unfold Hid cmpI; rw [if_neg h1, if_neg h2]
      go_enter Try.func35, Try.ntmps35
      go_wp2_with (go_at_call 51; refine (nanI_any _ _).mono ?_; rintro e w' ⟨rfl, rfl⟩)
      go_ret
      exact ⟨ret_int HE.out.symm, rfl⟩
theorem within_any (n lo hi : Int) (w : World) :
    Calls Try.prog 59 #[.int .i64 n, .int .i64 lo, .int .i64 hi] w fun e w' => e = .returned (.bool (inB lo hi n)) ∧ w' = w := by
  rw [inB_eq]
  by_cases h : lo ≤ n
  · by_cases h2 : n ≤ hi
    · go_enter Try.func59, Try.ntmps59
      go_wp2
      go_ret
      exact ⟨by rw [decide_eq_true h, decide_eq_true h2]; rfl, rfl⟩
    · go_enter Try.func59, Try.ntmps59
      go_wp2
      go_ret
      exact ⟨by simp [h2], rfl⟩
  · go_enter Try.func59, Try.ntmps59
    go_wp2
    go_ret
    exact ⟨by rw [decide_eq_false (show ¬ lo ≤ n by omega)]; rfl, rfl⟩

set_option maxHeartbeats 400000 in
theorem nameBytes_any (s : ByteArray) (w : World) (hs : s.size ≤ maxLen) :
    Calls Try.prog 87 #[.string s] w fun e w' => e = .returned (.bool (allB nameByte s)) ∧ w' = w := by
  unfold maxLen at hs
  go_enter Try.func87, Try.ntmps87
  go_wp2
  go_loop [7] (fun i => ∃ k : Nat, k ≤ s.size ∧ i = .int .i64 k ∧ (s.data.toList.take k).all nameByte = true) (fun i => s.size - (intOf i).toNat)
  case atStart => exact ⟨0, Nat.zero_le _, rfl, rfl⟩
  case round =>
    obtain ⟨k, hk, rfl, hall⟩ := hrel
    have HA : Hid ((s.data.toList.take k).all nameByte = true) := hall
    clear hall
    by_cases hlt : k < s.size
    · have hsn := nameByte_iff s[k]
      have HS : Hid (nameByte s[k] = true ↔ (97 ≤ (s[k].toNat : Int) ∧ (s[k].toNat : Int) ≤ 122 ∨ 48 ≤ (s[k].toNat : Int) ∧ (s[k].toNat : Int) ≤ 57 ∨ (s[k].toNat : Int) = 45)) := hsn
      clear hsn
      go_wp2
      all_goals try simp only [bne_iff_ne, ne_eq, bne_eq_false_iff_eq] at *
      all_goals first
        | (go_round
           case rel => exact ⟨k + 1, by omega, by go_num, all_step HA.out hlt (HS.out.2 (by omega))⟩
           case measure => simp [intOf]; omega)
        | (go_ret
           exact ⟨ret_bool (all_stop hlt (Bool.eq_false_iff.2 fun h => by have := HS.out.1 h; omega)).symm, rfl⟩)
    · go_wp2
      go_ret
      exact ⟨ret_bool (all_end HA.out (by omega)).symm, rfl⟩

set_option maxHeartbeats 400000 in
theorem isName_any (s : ByteArray) (w : World) (hs : s.size ≤ maxLen) :
    Calls Try.prog 84 #[.string s] w fun e w' => e = .returned (.bool (nmB s)) ∧ w' = w := by
  have hk := nameBytes_any s w hs
  unfold maxLen at hs
  by_cases h1 : 1 ≤ (s.size : Int)
  · by_cases h2 : (s.size : Int) ≤ 20
    · have HB : Hid (nmB s = allB nameByte s) := by unfold Hid nmB inB; simp; intro h; omega
      go_enter Try.func84, Try.ntmps84
      go_wp2_with (go_at_call 87; refine hk.mono ?_; rintro e w' ⟨rfl, rfl⟩)
      go_ret
      exact ⟨ret_bool HB.out.symm, rfl⟩
    · have HB : Hid (nmB s = false) := by unfold Hid nmB inB; simp; intro h; omega
      go_enter Try.func84, Try.ntmps84
      go_wp2
      go_ret
      exact ⟨ret_bool HB.out.symm, rfl⟩
  · have HB : Hid (nmB s = false) := by unfold Hid nmB inB; simp; intro h; omega
    go_enter Try.func84, Try.ntmps84
    go_wp2
    go_ret
    exact ⟨ret_bool HB.out.symm, rfl⟩

end Go.Proofs.Ythecacabcgaenaa
