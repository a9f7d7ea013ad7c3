import Derived.Test.YtgnodlkdjpnmoaaW3
namespace Go.Proofs.Ytgnodlkdjpnmoaa
open Go.RowKit

/-- THE VALUE v IS A []string THAT HOLDS L, IN THE WORLD w. -/
def StrsAt (w : World) (v : Value) (L : List ByteArray) : Prop :=
  (∃ (a : Option Addr) (cap : Nat), v = .slice a 0 cap ∧ L = []) ∨
  ∃ (b off cap : Nat), v = .slice (some ⟨b, off, none⟩) L.length cap ∧ L ≠ [] ∧ L.length ≤ maxLen ∧ b < w.heap.size ∧
    (∀ i (h : i < L.length), w.cell? ⟨b, off + i, none⟩ = some (.string L[i])) ∧ ∀ s ∈ L, s.size ≤ maxLen

theorem StrsAt.below {w w' : World} {v : Value} {L : List ByteArray} (h : StrsAt w v L) (hb : Below w.heap.size w w') : StrsAt w' v L := by
  rcases h with h | ⟨b, off, cap, h1, h2, h3, h4, h5, h6⟩
  · exact Or.inl h
  · exact Or.inr ⟨b, off, cap, h1, h2, h3, Nat.lt_of_lt_of_le h4 hb.size, fun i hi => by rw [hb.cell (p := ⟨b, off + i, none⟩) h4]; exact h5 i hi, h6⟩

def SzOk (n : Nat) (left r : Int) : Prop := -1 ≤ r ∧ r ≤ left ∧ (0 ≤ r → (n : Int) ≤ left)

set_option maxHeartbeats 400000 in
theorem szStrs_any (v : Value) (L : List ByteArray) (left : Int) (w : World) (h0 : 0 ≤ left) (h1 : left ≤ 1048576) (hv : StrsAt w v L) :
    Calls Try.prog 12 #[v, .int .i64 left] w fun e w' => ∃ r : Int, e = .returned (.int .i64 r) ∧ w' = w ∧ SzOk L.length left r := by
  rcases hv with ⟨a, cap, rfl, rfl⟩ | ⟨b, off, cap, rfl, hne, hm, hbw, hc, hsz⟩
  · go_enter Try.func12, Try.ntmps12
    go_wp2
    go_loop [1, 5] (fun l i => ∃ r : Int, l = .int .i64 r ∧ 0 ≤ r ∧ r ≤ left ∧ i = .int .i64 0) (fun _ _ => 0)
    case atStart => exact ⟨_, rfl, by omega, by omega, rfl⟩
    case round =>
      obtain ⟨r, rfl, hr0, hr1, rfl⟩ := hrel
      go_wp2
      go_ret
      exact ⟨r, rfl, rfl, by omega, by omega, fun _ => by simp; omega⟩
  · unfold maxLen at hm
    by_cases hle : (L.length : Int) ≤ left
    · go_enter Try.func12, Try.ntmps12
      go_wp2
      go_loop [1, 5] (fun l i => ∃ (r : Int) (k : Nat), l = .int .i64 r ∧ 0 ≤ r ∧ r ≤ left ∧ i = .int .i64 k ∧ k ≤ L.length) (fun _ i => L.length - (intOf i).toNat)
      case atStart => exact ⟨_, 0, rfl, by omega, by omega, rfl, by omega⟩
      case round =>
        obtain ⟨r, k, rfl, hr0, hr1, rfl, hk⟩ := hrel
        by_cases hlt : k < L.length
        · have hck := hc k hlt
          have hsk := hsz L[k] (List.getElem_mem hlt)
          unfold maxLen at hsk
          go_wp2
          all_goals first
            | (go_round
               case rel => exact ⟨_, k + 1, rfl, by omega, by omega, by go_num, by omega⟩
               case measure => simp [intOf]; omega)
            | (go_ret
               exact ⟨-1, rfl, rfl, by omega, by omega, fun h => by omega⟩)
        · go_wp2
          go_ret
          exact ⟨r, rfl, rfl, by omega, by omega, fun _ => hle⟩
    · go_enter Try.func12, Try.ntmps12
      go_wp2
      go_ret
      exact ⟨-1, rfl, rfl, by omega, by omega, fun h => by omega⟩

end Go.Proofs.Ytgnodlkdjpnmoaa

