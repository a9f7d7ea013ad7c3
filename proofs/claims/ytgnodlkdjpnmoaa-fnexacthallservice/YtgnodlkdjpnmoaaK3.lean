import Derived.Test.YtgnodlkdjpnmoaaK2
namespace Go.Proofs.Ytgnodlkdjpnmoaa
open Go.RowKit Go.Deep

theorem FdsW.kept {lo hi lo' hi' : Nat} {w w' : World} {v : Value} {n : Nat} (h : FdsW lo hi w v n) (k : Kept lo' hi' w w') (ho : hi ≤ lo' ∨ hi' ≤ lo) : FdsW lo hi w' v n := by
  rcases h with h | ⟨b, off, cap, h1, h2, h3, h4, h5, h6⟩
  · exact Or.inl h
  · refine Or.inr ⟨b, off, cap, h1, h2, h3, h4, h5, fun i hi' => ?_⟩
    obtain ⟨wv, m, hs, hw, hm⟩ := h6 i hi'
    exact ⟨wv, m, ⟨Nat.lt_of_lt_of_le hs.lt k.touch.size, k.there _ hs.lt hs.c0, fun j hj => k.there _ hs.lt (hs.cj j hj), by rw [k.touch.cell (p := ⟨b, _, none⟩) hs.lt (by simp only []; omega)]; exact hs.four, fun i => (k.frz _ hs.lt).trans (hs.fr i)⟩, hw.kept k, hm⟩
/-- the two cells of a shape that may be written; the second holds its fields -/
structure ShSpots (w : World) (b o : Nat) (fv : Value) : Prop where
  lt : b < w.heap.size
  c0 : (w.cell? ⟨b, o, none⟩).isSome = true
  one : w.cell? ⟨b, o + 1, none⟩ = some fv
  fr : ∀ i, w.frozen? ⟨b, i, none⟩ = false

def ShsInv (b off n : Nat) (m : Nat → Nat) (j : Nat) (w : World) : Prop := ∀ i, i < n → j ≤ i → ∃ fv nf, ShSpots w b (off + i * 2) fv ∧ FdsW (m i) (m (i + 1)) w fv nf ∧ nf ≤ 1048576

theorem ShsInv.kept {b off n : Nat} {m : Nat → Nat} {j j' lo' hi' : Nat} {w w' : World} (h : ShsInv b off n m j w) (k : Kept lo' hi' w w') (hm : ∀ i j, i ≤ j → m i ≤ m j) (hjj : j ≤ j') (hb : b < lo') (hh : hi' ≤ m j') : ShsInv b off n m j' w' := by
  intro i hi hj
  obtain ⟨fv, nf, hs, hf, hn⟩ := h i hi (by omega)
  refine ⟨fv, nf, ⟨Nat.lt_of_lt_of_le hs.lt k.touch.size, k.there _ hs.lt hs.c0, by rw [k.touch.cell (p := ⟨b, _, none⟩) hs.lt (Or.inl hb)]; exact hs.one, fun i => (k.frz _ hs.lt).trans (hs.fr i)⟩, hf.kept k (Or.inr ?_), hn⟩
  have := hm j' i hj
  omega
theorem ShsInv.below {b off n : Nat} {m : Nat → Nat} {j : Nat} {w w' : World} (h : ShsInv b off n m j w) (hb : Below w.heap.size w w') : ShsInv b off n m j w' := by
  intro i hi hj
  obtain ⟨fv, nf, hs, hf, hn⟩ := h i hi hj
  have k : Kept (m (i + 1)) (m (i + 1)) w w' := Kept.below hb
  exact ⟨fv, nf, ⟨Nat.lt_of_lt_of_le hs.lt hb.size, k.there _ hs.lt hs.c0, by rw [hb.cell (p := ⟨b, _, none⟩) hs.lt]; exact hs.one, fun i => (k.frz _ hs.lt).trans (hs.fr i)⟩, hf.kept k (Or.inl (Nat.le_refl _)), hn⟩
theorem ShsInv.set {b off n : Nat} {m : Nat → Nat} {j : Nat} {w : World} (h : ShsInv b off n m j w) (hb : b < m 0) (hm : ∀ i j, i ≤ j → m i ≤ m j) (l : Nat) (hl : l < n) (hlj : j ≤ l) (u : Value) : ShsInv b off n m j (w.setCell ⟨b, off + l * 2, none⟩ u) ∧ ∀ lo hi, lo ≤ b → b < hi → Kept lo hi w (w.setCell ⟨b, off + l * 2, none⟩ u) := by
  obtain ⟨_, _, hs0, _, _⟩ := h l hl hlj
  have hk := fun lo hi (h1 : lo ≤ b) (h2 : b < hi) => Kept.setCell lo hi w ⟨b, off + l * 2, none⟩ u ⟨h1, h2⟩ hs0.c0
  refine ⟨fun i hi hj => ?_, hk⟩
  obtain ⟨fv, nf, hs, hf, hn⟩ := h i hi hj
  have k := hk b (b + 1) (Nat.le_refl _) (by omega)
  refine ⟨fv, nf, ⟨Nat.lt_of_lt_of_le hs.lt k.touch.size, k.there _ hs.lt hs.c0, by rw [cell_set_ne0 _ _ _ _ _ (by omega)]; exact hs.one, fun i => (k.frz _ hs.lt).trans (hs.fr i)⟩, hf.kept k (Or.inr ?_), hn⟩
  have := hm 0 i (by omega)
  omega

end Go.Proofs.Ytgnodlkdjpnmoaa

