import Derived.Test.YtdeammfdkaomlaaGreatV01
import Derived.Test.YtdeammfdkaomlaaGreatV03
namespace Go.Proofs.YtdeammfdkaomlaaGreat
open Go.RowKit Go.Deep

/-- the eleven cells of a field that may be written; the fifth holds its words -/
structure Spots (w : World) (b o : Nat) (wv : Value) : Prop where
  lt : b < w.heap.size
  c0 : (w.cell? ⟨b, o, none⟩).isSome = true
  cj : ∀ j, j < 11 → (w.cell? ⟨b, o + j, none⟩).isSome = true
  four : w.cell? ⟨b, o + 4, none⟩ = some wv
  fr : ∀ i, w.frozen? ⟨b, i, none⟩ = false

def FdsInv (hi b off n : Nat) (w : World) : Prop := ∀ i, i < n → ∃ wv m, Spots w b (off + i * 11) wv ∧ Writ (b + 1) hi w wv m ∧ m ≤ 1048576

/-- kept since w, and all fields stand -/
structure Mk (lo hi b off n : Nat) (w W : World) : Prop where
  kept : Kept lo hi w W
  inv : FdsInv hi b off n W

theorem Mk.setp {lo hi b off n : Nat} {w W : World} (h : Mk lo hi b off n w W) (hl : lo ≤ b) (hh : b < hi) (o : Nat) (ho : (W.cell? ⟨b, o, none⟩).isSome = true) (h4 : ∀ i, o ≠ off + i * 11 + 4) (u : Value) : Mk lo hi b off n w (W.setCell ⟨b, o, none⟩ u) := by
  have hk := Kept.setCell lo hi W ⟨b, o, none⟩ u ⟨hl, hh⟩ ho
  refine ⟨h.kept.trans hk, fun i hi' => ?_⟩
  obtain ⟨wv, m, hs, hw, hm⟩ := h.inv i hi'
  refine ⟨wv, m, ⟨Nat.lt_of_lt_of_le hs.lt hk.touch.size, hk.there _ hs.lt hs.c0, fun j hj => hk.there _ hs.lt (hs.cj j hj), ?_, fun i => (hk.frz _ hs.lt).trans (hs.fr i)⟩, hw.kept hk, hm⟩
  rw [show (W.setCell ⟨b, o, none⟩ u).cell? ⟨b, off + i * 11 + 4, none⟩ = W.cell? ⟨b, off + i * 11 + 4, none⟩ from by apply World.cell?_setCell_other; simp only [ne_eq, Addr.mk.injEq, not_and]; intro _ e; exact absurd e (h4 i)]
  exact hs.four
theorem Mk.set {lo hi b off n : Nat} {w W : World} (h : Mk lo hi b off n w W) (hl : lo ≤ b) (hh : b < hi) (j c : Nat) (hj : j < n) (hc : c < 11) (h4 : c ≠ 4) (u : Value) : Mk lo hi b off n w (W.setCell ⟨b, off + j * 11 + c, none⟩ u) := by
  obtain ⟨wv, m, hs, _, _⟩ := h.inv j hj
  exact h.setp hl hh _ (hs.cj c hc) (fun i => by omega) u
theorem Mk.words {lo hi b off n : Nat} {w W W' : World} (h : Mk lo hi b off n w W) (hl : lo ≤ b) (k : Kept (b + 1) hi W W') : Mk lo hi b off n w W' := by
  refine ⟨h.kept.trans (k.wide (by omega) (Nat.le_refl _)), fun i hi' => ?_⟩
  obtain ⟨wv, m, hs, hw, hm⟩ := h.inv i hi'
  exact ⟨wv, m, ⟨Nat.lt_of_lt_of_le hs.lt k.touch.size, k.there _ hs.lt hs.c0, fun j hj => k.there _ hs.lt (hs.cj j hj), by rw [k.touch.cell (p := ⟨b, _, none⟩) hs.lt (Or.inl (by simp))]; exact hs.four, fun i => (k.frz _ hs.lt).trans (hs.fr i)⟩, hw.kept k, hm⟩
theorem Mk.below {lo hi b off n : Nat} {w W W' : World} (h : Mk lo hi b off n w W) (hl : lo ≤ b) (k : Below W.heap.size W W') : Mk lo hi b off n w W' := h.words hl (Kept.below k)

/-- A []GateField OF n FIELDS THAT MAY BE WRITTEN. -/
def FdsW (lo hi : Nat) (w : World) (v : Value) (n : Nat) : Prop :=
  (∃ (a : Option Addr) (cap : Nat), v = .slice a 0 cap ∧ n = 0) ∨
  ∃ (b off cap : Nat), v = .slice (some ⟨b, off, none⟩) n cap ∧ 0 < n ∧ n ≤ maxLen ∧ lo ≤ b ∧ b < hi ∧ FdsInv hi b off n w

theorem cell_set_ne0 (w : World) (b o o' : Nat) (u : Value) (h : o ≠ o') : (w.setCell ⟨b, o, none⟩ u).cell? ⟨b, o', none⟩ = w.cell? ⟨b, o', none⟩ := by
  rw [cell_set_ne _ _ _ _ (by simp only [ne_eq, Addr.mk.injEq, not_and]; intro _ e; exact absurd e h)]

end Go.Proofs.YtdeammfdkaomlaaGreat
namespace Go.Proofs.YtdeammfdkaomlaaGreat
open Go.RowKit Go.Deep

theorem FdsW.kept {lo hi lo' hi' : Nat} {w w' : World} {v : Value} {n : Nat} (h : FdsW lo hi w v n) (k : Kept lo' hi' w w') (ho : hi ≤ lo' ∨ hi' ≤ lo) : FdsW lo hi w' v n := by
  rcases h with h | ⟨b, off, cap, h1, h2, h3, h4, h5, h6⟩
  · exact Or.inl h
  · refine Or.inr ⟨b, off, cap, h1, h2, h3, h4, h5, fun i hi' => ?_⟩
    obtain ⟨wv, m, hs, hw, hm⟩ := h6 i hi'
    exact ⟨wv, m, ⟨Nat.lt_of_lt_of_le hs.lt k.touch.size, k.there _ hs.lt hs.c0, fun j hj => k.there _ hs.lt (hs.cj j hj), by rw [k.touch.cell (p := ⟨b, _, none⟩) hs.lt (by simp only []; omega)]; exact hs.four, fun i => (k.frz _ hs.lt).trans (hs.fr i)⟩, hw.kept k, hm⟩
theorem FdsW.form {lo hi : Nat} {w : World} {v : Value} {n : Nat} (h : FdsW lo hi w v n) : ∃ a cap, v = .slice a n cap := by
  rcases h with ⟨a, cap, h, rfl⟩ | ⟨b, off, cap, h, _⟩
  · exact ⟨a, cap, h⟩
  · exact ⟨_, cap, h⟩

/-- the two cells of a shape that may be written; the second holds its fields -/
structure ShSpots (w : World) (b o : Nat) (fv : Value) : Prop where
  lt : b < w.heap.size
  c0 : (w.cell? ⟨b, o, none⟩).isSome = true
  one : w.cell? ⟨b, o + 1, none⟩ = some fv
  fr : ∀ i, w.frozen? ⟨b, i, none⟩ = false

def ShsInv (b off n : Nat) (m : Nat → Nat) (j : Nat) (w : World) : Prop := ∀ i, i < n → j ≤ i → ∃ fv nf, ShSpots w b (off + i * 2) fv ∧ FdsW (m i) (m (i + 1)) w fv nf ∧ nf ≤ 1048576

theorem ShsInv.kept {b off n : Nat} {m : Nat → Nat} {j j' lo' hi' : Nat} {w w' : World} (h : ShsInv b off n m j w) (k : Kept lo' hi' w w') (hm : ∀ i j, i ≤ j → m i ≤ m j) (hjj : j ≤ j') (hb : b < lo') (hh : hi' ≤ m j') : ShsInv b off n m j' w' := by
  intro i hi hj
  obtain ⟨fv, nf, hs, hf, hn⟩ := h i hi (by omega)
  refine ⟨fv, nf, ⟨Nat.lt_of_lt_of_le hs.lt k.touch.size, k.there _ hs.lt hs.c0, by rw [k.touch.cell (p := ⟨b, _, none⟩) hs.lt (Or.inl hb)]; exact hs.one, fun i => (k.frz _ hs.lt).trans (hs.fr i)⟩, hf.kept k (Or.inr ?_), hn⟩
  have := hm j' i hj
  omega
theorem ShsInv.below {b off n : Nat} {m : Nat → Nat} {j : Nat} {w w' : World} (h : ShsInv b off n m j w) (hb : Below w.heap.size w w') : ShsInv b off n m j w' := by
  intro i hi hj
  obtain ⟨fv, nf, hs, hf, hn⟩ := h i hi hj
  have k : Kept (m (i + 1)) (m (i + 1)) w w' := Kept.below hb
  exact ⟨fv, nf, ⟨Nat.lt_of_lt_of_le hs.lt hb.size, k.there _ hs.lt hs.c0, by rw [hb.cell (p := ⟨b, _, none⟩) hs.lt]; exact hs.one, fun i => (k.frz _ hs.lt).trans (hs.fr i)⟩, hf.kept k (Or.inl (Nat.le_refl _)), hn⟩
theorem ShsInv.set {b off n : Nat} {m : Nat → Nat} {j : Nat} {w : World} (h : ShsInv b off n m j w) (hb : b < m 0) (hm : ∀ i j, i ≤ j → m i ≤ m j) (l : Nat) (hl : l < n) (hlj : j ≤ l) (u : Value) : ShsInv b off n m j (w.setCell ⟨b, off + l * 2, none⟩ u) ∧ ∀ lo hi, lo ≤ b → b < hi → Kept lo hi w (w.setCell ⟨b, off + l * 2, none⟩ u) := by
  obtain ⟨_, _, hs0, _, _⟩ := h l hl hlj
  have hk := fun lo hi (h1 : lo ≤ b) (h2 : b < hi) => Kept.setCell lo hi w ⟨b, off + l * 2, none⟩ u ⟨h1, h2⟩ hs0.c0
  refine ⟨fun i hi hj => ?_, hk⟩
  obtain ⟨fv, nf, hs, hf, hn⟩ := h i hi hj
  have k := hk b (b + 1) (Nat.le_refl _) (by omega)
  refine ⟨fv, nf, ⟨Nat.lt_of_lt_of_le hs.lt k.touch.size, k.there _ hs.lt hs.c0, by rw [cell_set_ne0 _ _ _ _ _ (by omega)]; exact hs.one, fun i => (k.frz _ hs.lt).trans (hs.fr i)⟩, hf.kept k (Or.inr ?_), hn⟩
  have := hm 0 i (by omega)
  omega

/-- A []GateShape OF n SHAPES THAT MAY BE WRITTEN. -/
def ShsW (lo hi : Nat) (w : World) (v : Value) (n : Nat) : Prop :=
  (∃ (a : Option Addr) (cap : Nat), v = .slice a 0 cap ∧ n = 0) ∨
  ∃ (b off cap : Nat) (m : Nat → Nat), v = .slice (some ⟨b, off, none⟩) n cap ∧ 0 < n ∧ n ≤ maxLen ∧ lo ≤ b ∧ b < hi ∧ b < m 0 ∧ (∀ i j, i ≤ j → m i ≤ m j) ∧ m n ≤ hi ∧ ShsInv b off n m 0 w

end Go.Proofs.YtdeammfdkaomlaaGreat
