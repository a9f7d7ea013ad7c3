import Derived.Test.YthfdfdlojfdckaaGreatVA1
import Derived.Laws.IdiomStrings
import Derived.Laws.Concat
import Derived.Deep.RegionWith
namespace Go.Proofs.YthfdfdlojfdckaaGreat
open Go.RowKit Go.Deep

/-- ONLY THE BLOCKS FROM lo TO hi MAY HAVE TURNED; new ones may have come. -/
structure Touch (lo hi : Nat) (w w' : World) : Prop where
  os : w'.os = w.os
  tape : w'.tape = w.tape
  output : w'.output = w.output
  size : w.heap.size ≤ w'.heap.size
  block : ∀ k, k < w.heap.size → (k < lo ∨ hi ≤ k) → w'.heap[k]? = w.heap[k]?
theorem Touch.refl (lo hi : Nat) (w : World) : Touch lo hi w w := ⟨rfl, rfl, rfl, Nat.le_refl _, fun _ _ _ => rfl⟩
theorem Touch.trans {lo hi : Nat} {a b c : World} (h : Touch lo hi a b) (k : Touch lo hi b c) : Touch lo hi a c :=
  ⟨k.os.trans h.os, k.tape.trans h.tape, k.output.trans h.output, Nat.le_trans h.size k.size, fun i hi' ho => (k.block i (Nat.lt_of_lt_of_le hi' h.size) ho).trans (h.block i hi' ho)⟩
theorem Touch.below {lo hi : Nat} {a b : World} (h : Below a.heap.size a b) : Touch lo hi a b := ⟨h.os, h.tape, h.output, h.size, fun k hk _ => h.block k hk⟩
theorem Touch.setCell (lo hi : Nat) (w : World) (p : Addr) (u : Value) (h : lo ≤ p.block ∧ p.block < hi) : Touch lo hi w (w.setCell p u) :=
  ⟨rfl, rfl, rfl, by simp [World.setCell], fun k _ ho => Below.heap_setCell _ _ _ _ (by omega)⟩
theorem Touch.cell {lo hi : Nat} {w w' : World} (h : Touch lo hi w w') {p : Addr} (hp : p.block < w.heap.size) (ho : p.block < lo ∨ hi ≤ p.block) : w'.cell? p = w.cell? p := World.cell?_of_block (w := w) (h.block p.block hp ho)
theorem Touch.frozen {lo hi : Nat} {w w' : World} (h : Touch lo hi w w') {p : Addr} (hp : p.block < w.heap.size) (ho : p.block < lo ∨ hi ≤ p.block) : w'.frozen? p = w.frozen? p := World.frozen?_of_block (w := w) (h.block p.block hp ho)
theorem Touch.wide {lo hi lo' hi' : Nat} {a b : World} (h : Touch lo hi a b) (h1 : lo' ≤ lo) (h2 : hi ≤ hi') : Touch lo' hi' a b := ⟨h.os, h.tape, h.output, h.size, fun k hk ho => h.block k hk (by omega)⟩
/-- what was touched from lo on leaves all below as it was -/
theorem Touch.under {lo hi : Nat} {a b : World} (h : Touch lo hi a b) (hl : lo ≤ a.heap.size) : Below lo a b := ⟨h.os, h.tape, h.output, h.size, fun k hk => h.block k (by omega) (Or.inl hk)⟩

/-- A []string OF ONE's OWN: its cells lie in a block from lo to hi, and may be written. -/
def StrsOwn (lo hi : Nat) (w : World) (v : Value) (L : List ByteArray) : Prop :=
  (∃ (a : Option Addr) (cap : Nat), v = .slice a 0 cap ∧ L = []) ∨
  ∃ (b off cap : Nat), v = .slice (some ⟨b, off, none⟩) L.length cap ∧ L ≠ [] ∧ L.length ≤ maxLen ∧ b < w.heap.size ∧
    (∀ i (h : i < L.length), w.cell? ⟨b, off + i, none⟩ = some (.string L[i])) ∧ (∀ s ∈ L, s.size ≤ maxLen) ∧ lo ≤ b ∧ b < hi ∧ ∀ i, w.frozen? ⟨b, off + i, none⟩ = false
theorem StrsOwn.at {lo hi : Nat} {w : World} {v : Value} {L : List ByteArray} (h : StrsOwn lo hi w v L) : StrsAt w v L := by
  rcases h with h | ⟨b, off, cap, h1, h2, h3, h4, h5, h6, _⟩
  · exact Or.inl h
  · exact Or.inr ⟨b, off, cap, h1, h2, h3, h4, h5, h6⟩
theorem StrsOwn.touch {lo hi lo' hi' : Nat} {w w' : World} {v : Value} {L : List ByteArray} (h : StrsOwn lo hi w v L) (ht : Touch lo' hi' w w') (ho : hi ≤ lo' ∨ hi' ≤ lo) : StrsOwn lo hi w' v L := by
  rcases h with h | ⟨b, off, cap, h1, h2, h3, h4, h5, h6, h7, h8, h9⟩
  · exact Or.inl h
  · exact Or.inr ⟨b, off, cap, h1, h2, h3, Nat.lt_of_lt_of_le h4 ht.size, fun i hi' => by rw [ht.cell (p := ⟨b, _, none⟩) h4 (by simp only []; omega)]; exact h5 i hi', h6, h7, h8, fun i => by rw [ht.frozen (p := ⟨b, _, none⟩) h4 (by simp only []; omega)]; exact h9 i⟩

end Go.Proofs.YthfdfdlojfdckaaGreat

namespace Go.Proofs.YthfdfdlojfdckaaGreat
open Go.RowKit Go.Deep

/-- TOUCHED FROM lo TO hi, and every cell is still there, as free as it was. -/
structure Kept (lo hi : Nat) (w w' : World) : Prop where
  touch : Touch lo hi w w'
  there : ∀ p : Addr, p.block < w.heap.size → (w.cell? p).isSome = true → (w'.cell? p).isSome = true
  frz : ∀ p : Addr, p.block < w.heap.size → w'.frozen? p = w.frozen? p
theorem Kept.refl (lo hi : Nat) (w : World) : Kept lo hi w w := ⟨Touch.refl _ _ _, fun _ _ h => h, fun _ _ => rfl⟩
theorem Kept.trans {lo hi : Nat} {a b c : World} (h : Kept lo hi a b) (k : Kept lo hi b c) : Kept lo hi a c :=
  ⟨h.touch.trans k.touch, fun p hp hs => k.there p (Nat.lt_of_lt_of_le hp h.touch.size) (h.there p hp hs), fun p hp => (k.frz p (Nat.lt_of_lt_of_le hp h.touch.size)).trans (h.frz p hp)⟩
theorem Kept.below {lo hi : Nat} {a b : World} (h : Below a.heap.size a b) : Kept lo hi a b :=
  ⟨Touch.below h, fun p hp hs => by rw [h.cell hp]; exact hs, fun p hp => h.frozen hp⟩
theorem Kept.setCell (lo hi : Nat) (w : World) (p : Addr) (u : Value) (h : lo ≤ p.block ∧ p.block < hi) (hs : (w.cell? p).isSome = true) : Kept lo hi w (w.setCell p u) := by
  refine ⟨Touch.setCell _ _ _ _ _ h, fun q _ hq => ?_, fun q _ => World.frozen?_setCell ..⟩
  by_cases e : p = q
  · subst e; rw [World.cell?_setCell_same' _ _ _ hs]; rfl
  · rw [show (w.setCell p u).cell? q = w.cell? q from by apply World.cell?_setCell_other; exact e]; exact hq
theorem Kept.wide {lo hi lo' hi' : Nat} {a b : World} (h : Kept lo hi a b) (h1 : lo' ≤ lo) (h2 : hi ≤ hi') : Kept lo' hi' a b := ⟨h.touch.wide h1 h2, h.there, h.frz⟩

/-- A LIST OF n CELLS THAT MAY BE WRITTEN, in a block from lo to hi. -/
def Writ (lo hi : Nat) (w : World) (v : Value) (n : Nat) : Prop :=
  (∃ (a : Option Addr) (cap : Nat), v = .slice a 0 cap ∧ n = 0) ∨
  ∃ (b off cap : Nat), v = .slice (some ⟨b, off, none⟩) n cap ∧ 0 < n ∧ n ≤ maxLen ∧ b < w.heap.size ∧
    (∀ i, i < n → (w.cell? ⟨b, off + i, none⟩).isSome = true) ∧ lo ≤ b ∧ b < hi ∧ ∀ i, w.frozen? ⟨b, off + i, none⟩ = false
theorem Writ.kept {lo hi lo' hi' : Nat} {w w' : World} {v : Value} {n : Nat} (h : Writ lo hi w v n) (k : Kept lo' hi' w w') : Writ lo hi w' v n := by
  rcases h with h | ⟨b, off, cap, h1, h2, h3, h4, h5, h6, h7, h8⟩
  · exact Or.inl h
  · exact Or.inr ⟨b, off, cap, h1, h2, h3, Nat.lt_of_lt_of_le h4 k.touch.size, fun i hi' => k.there _ h4 (h5 i hi'), h6, h7, fun i => (k.frz _ h4).trans (h8 i)⟩
theorem Writ.wide {lo hi lo' hi' : Nat} {w : World} {v : Value} {n : Nat} (h : Writ lo hi w v n) (h1 : lo' ≤ lo) (h2 : hi ≤ hi') : Writ lo' hi' w v n := by
  rcases h with h | ⟨b, off, cap, q1, q2, q3, q4, q5, q6, q7, q8⟩
  · exact Or.inl h
  · exact Or.inr ⟨b, off, cap, q1, q2, q3, q4, q5, by omega, by omega, q8⟩
theorem Writ.form {lo hi : Nat} {w : World} {v : Value} {n : Nat} (h : Writ lo hi w v n) : ∃ a cap, v = .slice a n cap := by
  rcases h with ⟨a, cap, h, rfl⟩ | ⟨b, off, cap, h, _⟩
  · exact ⟨a, cap, h⟩
  · exact ⟨_, cap, h⟩

end Go.Proofs.YthfdfdlojfdckaaGreat

