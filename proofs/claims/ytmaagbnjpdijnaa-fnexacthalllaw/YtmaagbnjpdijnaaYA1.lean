import Derived.Test.YtmaagbnjpdijnaaRows
import Derived.WalkKit
import Derived.WalkSpells
import Derived.WalkLawsBesides
import Derived.Deep.QuietTactic
import Derived.BigQuiet
import Derived.Deep.OwnRows
namespace Go.Proofs.Ytmaagbnjpdijnaa
open Go.RowKit

theorem hide {p : Prop} (h : p) : Hid p := h

def inB (lo hi n : Int) : Bool := decide (lo ≤ n ∧ n ≤ hi)
def nameByte (c : UInt8) : Bool := decide (97 ≤ c.toNat ∧ c.toNat ≤ 122 ∨ 48 ≤ c.toNat ∧ c.toNat ≤ 57 ∨ c.toNat = 45)

def allB (p : UInt8 → Bool) (s : ByteArray) : Bool := s.data.toList.all p

def nameB (s : ByteArray) : Bool := inB 1 16 s.size && allB nameByte s

end Go.Proofs.Ytmaagbnjpdijnaa

namespace Go.Proofs.Ytmaagbnjpdijnaa
open Go.RowKit

def digit (c : UInt8) : Bool := decide (48 ≤ c.toNat ∧ c.toNat ≤ 57)
def valOf (l : List UInt8) : Int := l.foldl (fun n c => 10 * n + ((c.toNat : Int) - 48)) 0
/-- no needless zero ahead -/
def headOk (s : ByteArray) : Bool := !(decide (1 < s.size) && (s.data.toList.head? == some 48))
def decB (s : ByteArray) : Bool := inB 1 7 s.size && headOk s && allB digit s
def decV (s : ByteArray) : Int := valOf s.data.toList
end Go.Proofs.Ytmaagbnjpdijnaa

namespace Go.Proofs.Ytmaagbnjpdijnaa
open Go.RowKit

def textByte (c : UInt8) : Bool := decide (33 ≤ c.toNat ∧ c.toNat ≤ 126)
def textB (lo hi : Int) (s : ByteArray) : Bool := decide (0 < s.size) && inB lo hi s.size && allB textByte s
end Go.Proofs.Ytmaagbnjpdijnaa

namespace Go.Proofs.Ytmaagbnjpdijnaa
open Go.RowKit

/-- THE VALUE v IS A []string THAT HOLDS L, IN THE WORLD w. -/
def StrsAt (w : World) (v : Value) (L : List ByteArray) : Prop :=
  (∃ (a : Option Addr) (cap : Nat), v = .slice a 0 cap ∧ L = []) ∨
  ∃ (b off cap : Nat), v = .slice (some ⟨b, off, none⟩) L.length cap ∧ L ≠ [] ∧ L.length ≤ maxLen ∧ b < w.heap.size ∧
    (∀ i (h : i < L.length), w.cell? ⟨b, off + i, none⟩ = some (.string L[i])) ∧ ∀ s ∈ L, s.size ≤ maxLen

theorem StrsAt.below {w w' : World} {v : Value} {L : List ByteArray} (h : StrsAt w v L) (hb : Below w.heap.size w w') : StrsAt w' v L := by
  rcases h with h | ⟨b, off, cap, h1, h2, h3, h4, h5, h6⟩
  · exact Or.inl h
  · exact Or.inr ⟨b, off, cap, h1, h2, h3, Nat.lt_of_lt_of_le h4 hb.size, fun i hi => by rw [hb.cell (p := ⟨b, off + i, none⟩) h4]; exact h5 i hi, h6⟩

def SzOk (n : Nat) (left r : Int) : Prop := -1 ≤ r ∧ r ≤ left ∧ (0 ≤ r → (n : Int) ≤ left)

def hasB (L : List ByteArray) (s : ByteArray) : Bool := L.any fun x => x.toList == s.toList
end Go.Proofs.Ytmaagbnjpdijnaa

namespace Go.Proofs.Ytmaagbnjpdijnaa
open Go.RowKit Go.Deep

set_option maxHeartbeats 400000 in
theorem eqStrs_same (v v' : Value) (L : List ByteArray) (w : World) (hv : StrsAt w v L) (hv' : StrsAt w v' L) :
    Calls Try.prog 125 #[v, v'] w fun e w' => e = .returned (.bool true) ∧ Below w.heap.size w w' := by
  by_cases hL : L = []
  · subst hL
    obtain ⟨a, cap, rfl⟩ : ∃ a cap, v = .slice a 0 cap := by
      rcases hv with ⟨a, cap, h, _⟩ | ⟨b, off, cap, h, hne, _⟩
      · exact ⟨a, cap, h⟩
      · exact absurd rfl hne
    obtain ⟨a', cap', rfl⟩ : ∃ a cap, v' = .slice a 0 cap := by
      rcases hv' with ⟨a, cap, h, _⟩ | ⟨b, off, cap, h, hne, _⟩
      · exact ⟨a, cap, h⟩
      · exact absurd rfl hne
    clear hv hv'
    go_enter Try.func125, Try.ntmps125
    go_wp2
    go_loop [5] (fun i => i = .int .i64 0) (fun _ => 0)
    case atStart => rfl
    case round =>
      subst hrel
      go_wp2
      go_ret
      exact ⟨rfl, Below.refl _ _⟩
  · obtain ⟨b, off, cap, rfl, hm, hbw, hc⟩ : ∃ b off cap, v = .slice (some ⟨b, off, none⟩) L.length cap ∧ L.length ≤ maxLen ∧ b < w.heap.size ∧ ∀ i (h : i < L.length), w.cell? ⟨b, off + i, none⟩ = some (.string L[i]) := by
      rcases hv with ⟨a, cap, h, h'⟩ | ⟨b, off, cap, h, hne, hm, hbw, hc, _⟩
      · exact absurd h' hL
      · exact ⟨b, off, cap, h, hm, hbw, hc⟩
    obtain ⟨b', off', cap', rfl, _, hbw', hc'⟩ : ∃ b off cap, v' = .slice (some ⟨b, off, none⟩) L.length cap ∧ L.length ≤ maxLen ∧ b < w.heap.size ∧ ∀ i (h : i < L.length), w.cell? ⟨b, off + i, none⟩ = some (.string L[i]) := by
      rcases hv' with ⟨a, cap, h, h'⟩ | ⟨b, off, cap, h, hne, hm, hbw, hc, _⟩
      · exact absurd h' hL
      · exact ⟨b, off, cap, h, hm, hbw, hc⟩
    clear hv hv'
    unfold maxLen at hm
    go_enter Try.func125, Try.ntmps125
    go_wp2
    go_loopw [5] (fun i wr => ∃ k : Nat, i = .int .i64 k ∧ k ≤ L.length ∧ Below w.heap.size w wr) (fun i _ => L.length - (intOf i).toNat)
    case atStart => exact ⟨0, rfl, by omega, Below.refl _ _⟩
    case round =>
      obtain ⟨k, rfl, hk, hb⟩ := hrel
      by_cases hlt : k < L.length
      · have hck : wr.cell? ⟨b, off + k, none⟩ = some (.string L[k]) := by rw [hb.cell (p := ⟨b, off + k, none⟩) hbw]; exact hc k hlt
        have hck' : wr.cell? ⟨b', off' + k, none⟩ = some (.string L[k]) := by rw [hb.cell (p := ⟨b', off' + k, none⟩) hbw']; exact hc' k hlt
        go_wp2
        go_quiet (fail)
        go_wp2
        go_roundw
        case rel => exact ⟨k + 1, by go_num, by omega, below_drewN hb _⟩
        case measure => simp [intOf]; omega
      · go_wp2
        go_ret
        exact ⟨rfl, hb⟩

/-- the first k of a new row are set -/
def fillF (L : List ByteArray) (k i : Nat) : Value := if i < k then .string (L.getD i ⟨#[]⟩) else .string ⟨#[]⟩
def Filled (wr : World) (B : Nat) (L : List ByteArray) (k : Nat) : Prop := wr.rowIs B 9 L.length (fillF L k)
theorem Filled.step {wr : World} {B : Nat} {L : List ByteArray} {k : Nat} (h : Filled wr B L k) (hk : k < L.length) : Filled (wr.setCell ⟨B, k, none⟩ (.string L[k])) B L (k + 1) := by
  unfold Filled at *
  refine (h.set k (.string L[k])).congr fun i hi => ?_
  unfold fillF
  by_cases e : i = k
  · subst e; simp [hk]
  · by_cases e2 : i < k
    · simp [e, e2, Nat.lt_succ_of_lt e2]
    · have : ¬ i < k + 1 := by omega
      simp [e, e2, this]
theorem Filled.frozen {wr : World} {B : Nat} {L : List ByteArray} {k : Nat} (h : Filled wr B L k) (i : Nat) : wr.frozen? ⟨B, i, none⟩ = false := World.rowIs.frozen h i
/-- .. AND ITS CELLS LIE FROM BLOCK lo ON. -/
def StrsIn (lo : Nat) (w : World) (v : Value) (L : List ByteArray) : Prop :=
  (∃ (a : Option Addr) (cap : Nat), v = .slice a 0 cap ∧ L = []) ∨
  ∃ (b off cap : Nat), v = .slice (some ⟨b, off, none⟩) L.length cap ∧ L ≠ [] ∧ L.length ≤ maxLen ∧ b < w.heap.size ∧
    (∀ i (h : i < L.length), w.cell? ⟨b, off + i, none⟩ = some (.string L[i])) ∧ (∀ s ∈ L, s.size ≤ maxLen) ∧ lo ≤ b
theorem StrsIn.at {lo : Nat} {w : World} {v : Value} {L : List ByteArray} (h : StrsIn lo w v L) : StrsAt w v L := by
  rcases h with h | ⟨b, off, cap, h1, h2, h3, h4, h5, h6, _⟩
  · exact Or.inl h
  · exact Or.inr ⟨b, off, cap, h1, h2, h3, h4, h5, h6⟩
theorem StrsIn.mono {lo lo' : Nat} {w : World} {v : Value} {L : List ByteArray} (h : StrsIn lo w v L) (hl : lo' ≤ lo) : StrsIn lo' w v L := by
  rcases h with h | ⟨b, off, cap, h1, h2, h3, h4, h5, h6, h7⟩
  · exact Or.inl h
  · exact Or.inr ⟨b, off, cap, h1, h2, h3, h4, h5, h6, Nat.le_trans hl h7⟩
theorem StrsIn.below {lo : Nat} {w w' : World} {v : Value} {L : List ByteArray} (h : StrsIn lo w v L) (hb : Below w.heap.size w w') : StrsIn lo w' v L := by
  rcases h with h | ⟨b, off, cap, h1, h2, h3, h4, h5, h6, h7⟩
  · exact Or.inl h
  · exact Or.inr ⟨b, off, cap, h1, h2, h3, Nat.lt_of_lt_of_le h4 hb.size, fun i hi => by rw [hb.cell (p := ⟨b, off + i, none⟩) h4]; exact h5 i hi, h6, h7⟩
theorem cell_setCell_ne (w : World) (p q : Addr) (u : Value) (h : q.block ≠ p.block) : (w.setCell p u).cell? q = w.cell? q :=
  World.cell?_of_block (w := w) (Below.heap_setCell w p u q.block h)
theorem StrsIn.setCell {lo : Nat} {w : World} {v : Value} {L : List ByteArray} (h : StrsIn lo w v L) {p : Addr} (hp : p.block < lo) (u : Value) : StrsIn lo (w.setCell p u) v L := by
  rcases h with h | ⟨b, off, cap, h1, h2, h3, h4, h5, h6, h7⟩
  · exact Or.inl h
  · exact Or.inr ⟨b, off, cap, h1, h2, h3, by simpa [World.setCell] using h4, fun i hi => by rw [cell_setCell_ne _ _ _ _ (by show b ≠ p.block; omega)]; exact h5 i hi, h6, h7⟩
theorem StrsIn.form {lo : Nat} {w : World} {v : Value} {L : List ByteArray} (h : StrsIn lo w v L) : ∃ a n cap, v = .slice a n cap := by
  rcases h with ⟨a, cap, h, _⟩ | ⟨b, off, cap, h, _⟩
  · exact ⟨a, _, cap, h⟩
  · exact ⟨_, _, cap, h⟩
theorem StrsAt.form {w : World} {v : Value} {L : List ByteArray} (h : StrsAt w v L) : ∃ a n cap, v = .slice a n cap := by
  rcases h with ⟨a, cap, h, _⟩ | ⟨b, off, cap, h, _⟩
  · exact ⟨a, _, cap, h⟩
  · exact ⟨_, _, cap, h⟩
theorem Filled.done {wr : World} {B : Nat} {L : List ByteArray} {k : Nat} (h : Filled wr B L k) (hk : L.length ≤ k) (hne : L ≠ []) (hm : L.length ≤ maxLen) (hs : ∀ s ∈ L, s.size ≤ maxLen) : StrsIn B wr (.slice (some ⟨B, 0, none⟩) L.length L.length) L := by
  refine Or.inr ⟨B, 0, L.length, rfl, hne, hm, World.rowIs.lt h, fun i hi => ?_, hs, Nat.le_refl _⟩
  rw [Nat.zero_add, World.rowIs.cell h hi]
  unfold fillF
  rw [if_pos (by omega), List.getD_eq_getElem?_getD, List.getElem?_eq_getElem hi]; rfl

end Go.Proofs.Ytmaagbnjpdijnaa

