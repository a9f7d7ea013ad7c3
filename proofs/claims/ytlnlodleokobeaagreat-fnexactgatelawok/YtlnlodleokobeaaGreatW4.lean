import Derived.Test.YtlnlodleokobeaaGreatW3
namespace Go.Proofs.YtlnlodleokobeaaGreat
open Go.RowKit

/-- THE VALUE v IS A []string THAT HOLDS L, IN THE WORLD w. -/
def StrsAt (w : World) (v : Value) (L : List ByteArray) : Prop :=
  (∃ (a : Option Addr) (cap : Nat), v = .slice a 0 cap ∧ L = []) ∨
  ∃ (b off cap : Nat), v = .slice (some ⟨b, off, none⟩) L.length cap ∧ L ≠ [] ∧ L.length ≤ maxLen ∧ b < w.heap.size ∧
    (∀ i (h : i < L.length), w.cell? ⟨b, off + i, none⟩ = some (.string L[i])) ∧ ∀ s ∈ L, s.size ≤ maxLen

theorem StrsAt.below {w w' : World} {v : Value} {L : List ByteArray} (h : StrsAt w v L) (hb : Below w.heap.size w w') : StrsAt w' v L := by
  rcases h with h | ⟨b, off, cap, h1, h2, h3, h4, h5, h6⟩
  · exact Or.inl h
  · exact Or.inr ⟨b, off, cap, h1, h2, h3, Nat.lt_of_lt_of_le h4 hb.size, fun i hi => by rw [hb.cell (p := ⟨b, off + i, none⟩) h4]; exact h5 i hi, h6⟩

def SzOk (n : Nat) (left r : Int) : Prop := -1 ≤ r ∧ r ≤ left ∧ (0 ≤ r → (n : Int) ≤ left)

set_option maxHeartbeats 400000 in
theorem szStrs_any (v : Value) (L : List ByteArray) (left : Int) (w : World) (h0 : 0 ≤ left) (h1 : left ≤ 1048576) (hv : StrsAt w v L) :
    Calls Tryz.prog 161 #[v, .int .i64 left] w fun e w' => ∃ r : Int, e = .returned (.int .i64 r) ∧ w' = w ∧ SzOk L.length left r := by
  rcases hv with ⟨a, cap, rfl, rfl⟩ | ⟨b, off, cap, rfl, hne, hm, hbw, hc, hsz⟩
  · go_enter Tryz.func161, Tryz.ntmps161
    go_wp2
    go_loop [1, 5] (fun l i => ∃ r : Int, l = .int .i64 r ∧ 0 ≤ r ∧ r ≤ left ∧ i = .int .i64 0) (fun _ _ => 0)
    case atStart => exact ⟨_, rfl, by omega, by omega, rfl⟩
    case round =>
      obtain ⟨r, rfl, hr0, hr1, rfl⟩ := hrel
      go_wp2
      go_ret
      exact ⟨r, rfl, rfl, by omega, by omega, fun _ => by simp; omega⟩
  · unfold maxLen at hm
    by_cases hle : (L.length : Int) ≤ left
    · go_enter Tryz.func161, Tryz.ntmps161
      go_wp2
      go_loop [1, 5] (fun l i => ∃ (r : Int) (k : Nat), l = .int .i64 r ∧ 0 ≤ r ∧ r ≤ left ∧ i = .int .i64 k ∧ k ≤ L.length) (fun _ i => L.length - (intOf i).toNat)
      case atStart => exact ⟨_, 0, rfl, by omega, by omega, rfl, by omega⟩
      case round =>
        obtain ⟨r, k, rfl, hr0, hr1, rfl, hk⟩ := hrel
        by_cases hlt : k < L.length
        · have hck := hc k hlt
          have hsk := hsz L[k] (List.getElem_mem hlt)
          unfold maxLen at hsk
          go_wp2
          all_goals first
            | (go_round
               case rel => exact ⟨_, k + 1, rfl, by omega, by omega, by go_num, by omega⟩
               case measure => simp [intOf]; omega)
            | (go_ret
               exact ⟨-1, rfl, rfl, by omega, by omega, fun h => by omega⟩)
        · go_wp2
          go_ret
          exact ⟨r, rfl, rfl, by omega, by omega, fun _ => hle⟩
    · go_enter Tryz.func161, Tryz.ntmps161
      go_wp2
      go_ret
      exact ⟨-1, rfl, rfl, by omega, by omega, fun h => by omega⟩

def hasB (L : List ByteArray) (s : ByteArray) : Bool := L.any fun x => x.toList == s.toList
theorem has_stop {L : List ByteArray} {s : ByteArray} {k : Nat} (h : k < L.length) (hp : (L[k].toList == s.toList) = true) : hasB L s = true := by
  unfold hasB; rw [List.any_eq_true]; exact ⟨L[k], List.getElem_mem h, hp⟩
theorem has_step {L : List ByteArray} {s : ByteArray} {k : Nat} (h : hasB (L.take k) s = false) (hk : k < L.length) (hp : (L[k].toList == s.toList) = false) : hasB (L.take (k + 1)) s = false := by
  unfold hasB at *
  rw [List.take_succ_eq_append_getElem hk, List.any_append, h]; simp [hp]
theorem has_end {L : List ByteArray} {s : ByteArray} {k : Nat} (h : hasB (L.take k) s = false) (hk : L.length ≤ k) : hasB L s = false := by
  rwa [List.take_of_length_le hk] at h

set_option maxHeartbeats 400000 in
theorem l1Has_any (v : Value) (L : List ByteArray) (s : ByteArray) (w : World) (hv : StrsAt w v L) :
    Calls Tryz.prog 148 #[v, .string s] w fun e w' => e = .returned (.bool (hasB L s)) ∧ w' = w := by
  rcases hv with ⟨a, cap, rfl, rfl⟩ | ⟨b, off, cap, rfl, hne, hm, hbw, hc, hsz⟩
  · go_enter Tryz.func148, Tryz.ntmps148
    go_wp2
    go_loop [5] (fun i => i = .int .i64 0) (fun _ => 0)
    case atStart => rfl
    case round =>
      subst hrel
      go_wp2
      go_ret
      exact ⟨rfl, rfl⟩
  · unfold maxLen at hm
    go_enter Tryz.func148, Tryz.ntmps148
    go_wp2
    go_loop [5] (fun i => ∃ k : Nat, i = .int .i64 k ∧ k ≤ L.length ∧ hasB (L.take k) s = false) (fun i => L.length - (intOf i).toNat)
    case atStart => exact ⟨0, rfl, by omega, rfl⟩
    case round =>
      obtain ⟨k, rfl, hk, hh⟩ := hrel
      have HH : Hid (hasB (L.take k) s = false) := hh
      clear hh
      by_cases hlt : k < L.length
      · have hck := hc k hlt
        by_cases he : (L[k].toList == s.toList) = true
        · go_wp2
          go_ret
          exact ⟨ret_bool (has_stop hlt he).symm, rfl⟩
        · have he' : (L[k].toList == s.toList) = false := by simpa using he
          clear he
          go_wp2
          go_round
          case rel => exact ⟨k + 1, by go_num, by omega, has_step HH.out hlt he'⟩
          case measure => simp [intOf]; omega
      · go_wp2
        go_ret
        exact ⟨ret_bool (has_end HH.out (by omega)).symm, rfl⟩

set_option maxHeartbeats 400000 in
theorem index_any (v : Value) (L : List ByteArray) (s : ByteArray) (w : World) (hv : StrsAt w v L) :
    Calls Tryz.prog 250 #[v, .string s] w fun e w' => ∃ r : Int, e = .returned (.int .i64 r) ∧ w' = w ∧ decide (0 ≤ r) = hasB L s := by
  rcases hv with ⟨a, cap, rfl, rfl⟩ | ⟨b, off, cap, rfl, hne, hm, hbw, hc, hsz⟩
  · go_enter Tryz.func250, Tryz.ntmps250
    go_wp2
    go_loop [8] (fun i => i = .int .i64 0) (fun _ => 0)
    case atStart => rfl
    case round =>
      subst hrel
      go_wp2
      go_ret
      exact ⟨-1, rfl, rfl, rfl⟩
  · unfold maxLen at hm
    go_enter Tryz.func250, Tryz.ntmps250
    go_wp2
    go_loop [8] (fun i => ∃ k : Nat, i = .int .i64 k ∧ k ≤ L.length ∧ hasB (L.take k) s = false) (fun i => L.length - (intOf i).toNat)
    case atStart => exact ⟨0, rfl, by omega, rfl⟩
    case round =>
      obtain ⟨k, rfl, hk, hh⟩ := hrel
      have HH : Hid (hasB (L.take k) s = false) := hh
      clear hh
      by_cases hlt : k < L.length
      · have hck := hc k hlt
        by_cases he : (s.toList == L[k].toList) = true
        · go_wp2
          go_ret
          exact ⟨k, rfl, rfl, by rw [has_stop hlt (by rw [Bool.beq_comm]; exact he)]; simp⟩
        · have he' : (s.toList == L[k].toList) = false := by simpa using he
          clear he
          go_wp2
          go_round
          case rel => exact ⟨k + 1, by go_num, by omega, has_step HH.out hlt (by rw [Bool.beq_comm]; exact he')⟩
          case measure => simp [intOf]; omega
      · go_wp2
        go_ret
        exact ⟨-1, rfl, rfl, by rw [has_end HH.out (by omega)]; rfl⟩

set_option maxHeartbeats 400000 in
theorem contains_any (v : Value) (L : List ByteArray) (s : ByteArray) (w : World) (hv : StrsAt w v L) :
    Calls Tryz.prog 238 #[v, .string s] w fun e w' => e = .returned (.bool (hasB L s)) ∧ w' = w := by
  go_enter Tryz.func238, Tryz.ntmps238
  go_wp2_with fail
  refine (index_any v L s _ hv).mono ?_
  rintro e w1 ⟨r, rfl, rfl, hr⟩
  have HR : Hid (decide (0 ≤ r) = hasB L s) := hr
  clear hr
  go_wp2
  go_ret
  exact ⟨ret_bool HR.out, rfl⟩
end Go.Proofs.YtlnlodleokobeaaGreat

