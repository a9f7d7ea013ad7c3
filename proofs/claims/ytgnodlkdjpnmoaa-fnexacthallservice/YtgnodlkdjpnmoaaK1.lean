import Derived.Test.YtgnodlkdjpnmoaaM2
namespace Go.Proofs.Ytgnodlkdjpnmoaa
open Go.RowKit Go.Deep

/-- TOUCHED FROM lo TO hi, and every cell is still there, as free as it was. -/
structure Kept (lo hi : Nat) (w w' : World) : Prop where
  touch : Touch lo hi w w'
  there : ∀ p : Addr, p.block < w.heap.size → (w.cell? p).isSome = true → (w'.cell? p).isSome = true
  frz : ∀ p : Addr, p.block < w.heap.size → w'.frozen? p = w.frozen? p
theorem Kept.refl (lo hi : Nat) (w : World) : Kept lo hi w w := ⟨Touch.refl _ _ _, fun _ _ h => h, fun _ _ => rfl⟩
theorem Kept.trans {lo hi : Nat} {a b c : World} (h : Kept lo hi a b) (k : Kept lo hi b c) : Kept lo hi a c :=
  ⟨h.touch.trans k.touch, fun p hp hs => k.there p (Nat.lt_of_lt_of_le hp h.touch.size) (h.there p hp hs), fun p hp => (k.frz p (Nat.lt_of_lt_of_le hp h.touch.size)).trans (h.frz p hp)⟩
theorem Kept.below {lo hi : Nat} {a b : World} (h : Below a.heap.size a b) : Kept lo hi a b :=
  ⟨Touch.below h, fun p hp hs => by rw [h.cell hp]; exact hs, fun p hp => h.frozen hp⟩
theorem Kept.setCell (lo hi : Nat) (w : World) (p : Addr) (u : Value) (h : lo ≤ p.block ∧ p.block < hi) (hs : (w.cell? p).isSome = true) : Kept lo hi w (w.setCell p u) := by
  refine ⟨Touch.setCell _ _ _ _ _ h, fun q _ hq => ?_, fun q _ => World.frozen?_setCell ..⟩
  by_cases e : p = q
  · subst e; rw [World.cell?_setCell_same' _ _ _ hs]; rfl
  · rw [show (w.setCell p u).cell? q = w.cell? q from by apply World.cell?_setCell_other; exact e]; exact hq
theorem Kept.wide {lo hi lo' hi' : Nat} {a b : World} (h : Kept lo hi a b) (h1 : lo' ≤ lo) (h2 : hi ≤ hi') : Kept lo' hi' a b := ⟨h.touch.wide h1 h2, h.there, h.frz⟩

/-- A LIST OF n CELLS THAT MAY BE WRITTEN, in a block from lo to hi. -/
def Writ (lo hi : Nat) (w : World) (v : Value) (n : Nat) : Prop :=
  (∃ (a : Option Addr) (cap : Nat), v = .slice a 0 cap ∧ n = 0) ∨
  ∃ (b off cap : Nat), v = .slice (some ⟨b, off, none⟩) n cap ∧ 0 < n ∧ n ≤ maxLen ∧ b < w.heap.size ∧
    (∀ i, i < n → (w.cell? ⟨b, off + i, none⟩).isSome = true) ∧ lo ≤ b ∧ b < hi ∧ ∀ i, w.frozen? ⟨b, off + i, none⟩ = false
theorem Writ.kept {lo hi lo' hi' : Nat} {w w' : World} {v : Value} {n : Nat} (h : Writ lo hi w v n) (k : Kept lo' hi' w w') : Writ lo hi w' v n := by
  rcases h with h | ⟨b, off, cap, h1, h2, h3, h4, h5, h6, h7, h8⟩
  · exact Or.inl h
  · exact Or.inr ⟨b, off, cap, h1, h2, h3, Nat.lt_of_lt_of_le h4 k.touch.size, fun i hi' => k.there _ h4 (h5 i hi'), h6, h7, fun i => (k.frz _ h4).trans (h8 i)⟩
theorem Writ.wide {lo hi lo' hi' : Nat} {w : World} {v : Value} {n : Nat} (h : Writ lo hi w v n) (h1 : lo' ≤ lo) (h2 : hi ≤ hi') : Writ lo' hi' w v n := by
  rcases h with h | ⟨b, off, cap, q1, q2, q3, q4, q5, q6, q7, q8⟩
  · exact Or.inl h
  · exact Or.inr ⟨b, off, cap, q1, q2, q3, q4, q5, by omega, by omega, q8⟩
theorem Writ.form {lo hi : Nat} {w : World} {v : Value} {n : Nat} (h : Writ lo hi w v n) : ∃ a cap, v = .slice a n cap := by
  rcases h with ⟨a, cap, h, rfl⟩ | ⟨b, off, cap, h, _⟩
  · exact ⟨a, cap, h⟩
  · exact ⟨_, cap, h⟩

end Go.Proofs.Ytgnodlkdjpnmoaa

