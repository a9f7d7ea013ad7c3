import Derived.Test.YtmaagbnjpdijnaaYM2
import Derived.Test.YtmaagbnjpdijnaaYB1
import Derived.Test.YtmaagbnjpdijnaaYCC
import Derived.Test.YtmaagbnjpdijnaaYA1
namespace Go.Proofs.Ytmaagbnjpdijnaa
open Go.RowKit Go.Deep

/-- the eleven cells of a field that may be written; the fifth holds its words -/
structure Spots (w : World) (b o : Nat) (wv : Value) : Prop where
  lt : b < w.heap.size
  c0 : (w.cell? ⟨b, o, none⟩).isSome = true
  cj : ∀ j, j < 11 → (w.cell? ⟨b, o + j, none⟩).isSome = true
  four : w.cell? ⟨b, o + 4, none⟩ = some wv
  fr : ∀ i, w.frozen? ⟨b, i, none⟩ = false

def FdsInv (hi b off n : Nat) (w : World) : Prop := ∀ i, i < n → ∃ wv m, Spots w b (off + i * 11) wv ∧ Writ (b + 1) hi w wv m ∧ m ≤ 1048576

/-- kept since w, and all fields stand -/
structure Mk (lo hi b off n : Nat) (w W : World) : Prop where
  kept : Kept lo hi w W
  inv : FdsInv hi b off n W

theorem Mk.setp {lo hi b off n : Nat} {w W : World} (h : Mk lo hi b off n w W) (hl : lo ≤ b) (hh : b < hi) (o : Nat) (ho : (W.cell? ⟨b, o, none⟩).isSome = true) (h4 : ∀ i, o ≠ off + i * 11 + 4) (u : Value) : Mk lo hi b off n w (W.setCell ⟨b, o, none⟩ u) := by
  have hk := Kept.setCell lo hi W ⟨b, o, none⟩ u ⟨hl, hh⟩ ho
  refine ⟨h.kept.trans hk, fun i hi' => ?_⟩
  obtain ⟨wv, m, hs, hw, hm⟩ := h.inv i hi'
  refine ⟨wv, m, ⟨Nat.lt_of_lt_of_le hs.lt hk.touch.size, hk.there _ hs.lt hs.c0, fun j hj => hk.there _ hs.lt (hs.cj j hj), ?_, fun i => (hk.frz _ hs.lt).trans (hs.fr i)⟩, hw.kept hk, hm⟩
  rw [show (W.setCell ⟨b, o, none⟩ u).cell? ⟨b, off + i * 11 + 4, none⟩ = W.cell? ⟨b, off + i * 11 + 4, none⟩ from by apply World.cell?_setCell_other; simp only [ne_eq, Addr.mk.injEq, not_and]; intro _ e; exact absurd e (h4 i)]
  exact hs.four
theorem Mk.set {lo hi b off n : Nat} {w W : World} (h : Mk lo hi b off n w W) (hl : lo ≤ b) (hh : b < hi) (j c : Nat) (hj : j < n) (hc : c < 11) (h4 : c ≠ 4) (u : Value) : Mk lo hi b off n w (W.setCell ⟨b, off + j * 11 + c, none⟩ u) := by
  obtain ⟨wv, m, hs, _, _⟩ := h.inv j hj
  exact h.setp hl hh _ (hs.cj c hc) (fun i => by omega) u
theorem Mk.words {lo hi b off n : Nat} {w W W' : World} (h : Mk lo hi b off n w W) (hl : lo ≤ b) (k : Kept (b + 1) hi W W') : Mk lo hi b off n w W' := by
  refine ⟨h.kept.trans (k.wide (by omega) (Nat.le_refl _)), fun i hi' => ?_⟩
  obtain ⟨wv, m, hs, hw, hm⟩ := h.inv i hi'
  exact ⟨wv, m, ⟨Nat.lt_of_lt_of_le hs.lt k.touch.size, k.there _ hs.lt hs.c0, fun j hj => k.there _ hs.lt (hs.cj j hj), by rw [k.touch.cell (p := ⟨b, _, none⟩) hs.lt (Or.inl (by simp))]; exact hs.four, fun i => (k.frz _ hs.lt).trans (hs.fr i)⟩, hw.kept k, hm⟩
theorem Mk.below {lo hi b off n : Nat} {w W W' : World} (h : Mk lo hi b off n w W) (hl : lo ≤ b) (k : Below W.heap.size W W') : Mk lo hi b off n w W' := h.words hl (Kept.below k)

/-- A []GateField OF n FIELDS THAT MAY BE WRITTEN. -/
def FdsW (lo hi : Nat) (w : World) (v : Value) (n : Nat) : Prop :=
  (∃ (a : Option Addr) (cap : Nat), v = .slice a 0 cap ∧ n = 0) ∨
  ∃ (b off cap : Nat), v = .slice (some ⟨b, off, none⟩) n cap ∧ 0 < n ∧ n ≤ maxLen ∧ lo ≤ b ∧ b < hi ∧ FdsInv hi b off n w

theorem cell_set_ne0 (w : World) (b o o' : Nat) (u : Value) (h : o ≠ o') : (w.setCell ⟨b, o, none⟩ u).cell? ⟨b, o', none⟩ = w.cell? ⟨b, o', none⟩ := by
  rw [cell_set_ne _ _ _ _ (by simp only [ne_eq, Addr.mk.injEq, not_and]; intro _ e; exact absurd e h)]

end Go.Proofs.Ytmaagbnjpdijnaa

namespace Go.Proofs.Ytmaagbnjpdijnaa
open Go.RowKit Go.Deep

theorem FdsW.kept {lo hi lo' hi' : Nat} {w w' : World} {v : Value} {n : Nat} (h : FdsW lo hi w v n) (k : Kept lo' hi' w w') (ho : hi ≤ lo' ∨ hi' ≤ lo) : FdsW lo hi w' v n := by
  rcases h with h | ⟨b, off, cap, h1, h2, h3, h4, h5, h6⟩
  · exact Or.inl h
  · refine Or.inr ⟨b, off, cap, h1, h2, h3, h4, h5, fun i hi' => ?_⟩
    obtain ⟨wv, m, hs, hw, hm⟩ := h6 i hi'
    exact ⟨wv, m, ⟨Nat.lt_of_lt_of_le hs.lt k.touch.size, k.there _ hs.lt hs.c0, fun j hj => k.there _ hs.lt (hs.cj j hj), by rw [k.touch.cell (p := ⟨b, _, none⟩) hs.lt (by simp only []; omega)]; exact hs.four, fun i => (k.frz _ hs.lt).trans (hs.fr i)⟩, hw.kept k, hm⟩
theorem FdsW.form {lo hi : Nat} {w : World} {v : Value} {n : Nat} (h : FdsW lo hi w v n) : ∃ a cap, v = .slice a n cap := by
  rcases h with ⟨a, cap, h, rfl⟩ | ⟨b, off, cap, h, _⟩
  · exact ⟨a, cap, h⟩
  · exact ⟨_, cap, h⟩

/-- the two cells of a shape that may be written; the second holds its fields -/
structure ShSpots (w : World) (b o : Nat) (fv : Value) : Prop where
  lt : b < w.heap.size
  c0 : (w.cell? ⟨b, o, none⟩).isSome = true
  one : w.cell? ⟨b, o + 1, none⟩ = some fv
  fr : ∀ i, w.frozen? ⟨b, i, none⟩ = false

def ShsInv (b off n : Nat) (m : Nat → Nat) (j : Nat) (w : World) : Prop := ∀ i, i < n → j ≤ i → ∃ fv nf, ShSpots w b (off + i * 2) fv ∧ FdsW (m i) (m (i + 1)) w fv nf ∧ nf ≤ 1048576

theorem ShsInv.kept {b off n : Nat} {m : Nat → Nat} {j j' lo' hi' : Nat} {w w' : World} (h : ShsInv b off n m j w) (k : Kept lo' hi' w w') (hm : ∀ i j, i ≤ j → m i ≤ m j) (hjj : j ≤ j') (hb : b < lo') (hh : hi' ≤ m j') : ShsInv b off n m j' w' := by
  intro i hi hj
  obtain ⟨fv, nf, hs, hf, hn⟩ := h i hi (by omega)
  refine ⟨fv, nf, ⟨Nat.lt_of_lt_of_le hs.lt k.touch.size, k.there _ hs.lt hs.c0, by rw [k.touch.cell (p := ⟨b, _, none⟩) hs.lt (Or.inl hb)]; exact hs.one, fun i => (k.frz _ hs.lt).trans (hs.fr i)⟩, hf.kept k (Or.inr ?_), hn⟩
  have := hm j' i hj
  omega
theorem ShsInv.below {b off n : Nat} {m : Nat → Nat} {j : Nat} {w w' : World} (h : ShsInv b off n m j w) (hb : Below w.heap.size w w') : ShsInv b off n m j w' := by
  intro i hi hj
  obtain ⟨fv, nf, hs, hf, hn⟩ := h i hi hj
  have k : Kept (m (i + 1)) (m (i + 1)) w w' := Kept.below hb
  exact ⟨fv, nf, ⟨Nat.lt_of_lt_of_le hs.lt hb.size, k.there _ hs.lt hs.c0, by rw [hb.cell (p := ⟨b, _, none⟩) hs.lt]; exact hs.one, fun i => (k.frz _ hs.lt).trans (hs.fr i)⟩, hf.kept k (Or.inl (Nat.le_refl _)), hn⟩
theorem ShsInv.set {b off n : Nat} {m : Nat → Nat} {j : Nat} {w : World} (h : ShsInv b off n m j w) (hb : b < m 0) (hm : ∀ i j, i ≤ j → m i ≤ m j) (l : Nat) (hl : l < n) (hlj : j ≤ l) (u : Value) : ShsInv b off n m j (w.setCell ⟨b, off + l * 2, none⟩ u) ∧ ∀ lo hi, lo ≤ b → b < hi → Kept lo hi w (w.setCell ⟨b, off + l * 2, none⟩ u) := by
  obtain ⟨_, _, hs0, _, _⟩ := h l hl hlj
  have hk := fun lo hi (h1 : lo ≤ b) (h2 : b < hi) => Kept.setCell lo hi w ⟨b, off + l * 2, none⟩ u ⟨h1, h2⟩ hs0.c0
  refine ⟨fun i hi hj => ?_, hk⟩
  obtain ⟨fv, nf, hs, hf, hn⟩ := h i hi hj
  have k := hk b (b + 1) (Nat.le_refl _) (by omega)
  refine ⟨fv, nf, ⟨Nat.lt_of_lt_of_le hs.lt k.touch.size, k.there _ hs.lt hs.c0, by rw [cell_set_ne0 _ _ _ _ _ (by omega)]; exact hs.one, fun i => (k.frz _ hs.lt).trans (hs.fr i)⟩, hf.kept k (Or.inr ?_), hn⟩
  have := hm 0 i (by omega)
  omega

/-- A []GateShape OF n SHAPES THAT MAY BE WRITTEN. -/
def ShsW (lo hi : Nat) (w : World) (v : Value) (n : Nat) : Prop :=
  (∃ (a : Option Addr) (cap : Nat), v = .slice a 0 cap ∧ n = 0) ∨
  ∃ (b off cap : Nat) (m : Nat → Nat), v = .slice (some ⟨b, off, none⟩) n cap ∧ 0 < n ∧ n ≤ maxLen ∧ lo ≤ b ∧ b < hi ∧ b < m 0 ∧ (∀ i j, i ≤ j → m i ≤ m j) ∧ m n ≤ hi ∧ ShsInv b off n m 0 w

end Go.Proofs.Ytmaagbnjpdijnaa

namespace Go.Proofs.Ytmaagbnjpdijnaa
open Go.RowKit Go.Deep

theorem Filled.own {wr : World} {B : Nat} {L : List ByteArray} {k : Nat} (h : Filled wr B L k) (hk : L.length ≤ k) (hne : L ≠ []) (hm : L.length ≤ maxLen) (hs : ∀ s ∈ L, s.size ≤ maxLen) : StrsOwn B wr.heap.size wr (.slice (some ⟨B, 0, none⟩) L.length L.length) L := by
  refine Or.inr ⟨B, 0, L.length, rfl, hne, hm, World.rowIs.lt h, fun i hi => ?_, hs, Nat.le_refl _, World.rowIs.lt h, fun i => World.rowIs.frozen h _⟩
  rw [Nat.zero_add, World.rowIs.cell h hi]
  unfold fillF
  rw [if_pos (by omega), List.getD_eq_getElem?_getD, List.getElem?_eq_getElem hi]; rfl

theorem Writ.setCell {lo hi : Nat} {w : World} {v : Value} {n : Nat} (h : Writ lo hi w v n) {p : Addr} (hp : p.block < lo) (u : Value) : Writ lo hi (w.setCell p u) v n := by
  rcases h with h | ⟨b, off, cap, h1, h2, h3, h4, h5, h6, h7, h8⟩
  · exact Or.inl h
  · exact Or.inr ⟨b, off, cap, h1, h2, h3, by simpa [World.setCell] using h4, fun i hi' => by rw [cell_setCell_ne _ _ _ _ (by show b ≠ p.block; omega)]; exact h5 i hi', h6, h7, fun i => by rw [World.frozen?_setCell]; exact h8 i⟩

/-- the words of the first k fields may be written -/
def FdOwns (wr : World) (B : Nat) (Fs : List Fd) (k : Nat) : Prop :=
  ∀ i (h : i < Fs.length), i < k → ∃ wv, wr.cell? ⟨B, i * 11 + 4, none⟩ = some wv ∧ Writ (B + 1) wr.heap.size wr wv Fs[i].words.length
theorem FdOwns.below {wr w1 : World} {B : Nat} {Fs : List Fd} {k : Nat} (h : FdOwns wr B Fs k) (hb : Below wr.heap.size wr w1) (hB : B < wr.heap.size) : FdOwns w1 B Fs k := fun i hi hik => by
  obtain ⟨wv, h1, h2⟩ := h i hi hik
  exact ⟨wv, by rw [hb.cell (p := ⟨B, _, none⟩) hB]; exact h1, (h2.kept (Kept.below (lo := 0) (hi := 0) hb)).wide (Nat.le_refl _) hb.size⟩
theorem FdOwns.step {w1 : World} {B : Nat} {Fs : List Fd} {k : Nat} {wv v0 v1 v2 v3 v5 v6 v7 v8 v9 v10 o4 : Value} (h : FdOwns w1 B Fs k) (hk : k < Fs.length) (ho : w1.cell? ⟨B, k * 11 + 4, none⟩ = some o4) (hs : Writ (B + 1) w1.heap.size w1 wv Fs[k].words.length) :
    FdOwns (((((((((((w1.setCell ⟨B, k * 11, none⟩ v0).setCell ⟨B, k * 11 + 1, none⟩ v1).setCell ⟨B, k * 11 + 2, none⟩ v2).setCell ⟨B, k * 11 + 3, none⟩ v3).setCell ⟨B, k * 11 + 4, none⟩ wv).setCell ⟨B, k * 11 + 5, none⟩ v5).setCell ⟨B, k * 11 + 6, none⟩ v6).setCell ⟨B, k * 11 + 7, none⟩ v7).setCell ⟨B, k * 11 + 8, none⟩ v8).setCell ⟨B, k * 11 + 9, none⟩ v9).setCell ⟨B, k * 11 + 10, none⟩ v10) B Fs (k + 1) := by
  have hz : (((((((((((w1.setCell ⟨B, k * 11, none⟩ v0).setCell ⟨B, k * 11 + 1, none⟩ v1).setCell ⟨B, k * 11 + 2, none⟩ v2).setCell ⟨B, k * 11 + 3, none⟩ v3).setCell ⟨B, k * 11 + 4, none⟩ wv).setCell ⟨B, k * 11 + 5, none⟩ v5).setCell ⟨B, k * 11 + 6, none⟩ v6).setCell ⟨B, k * 11 + 7, none⟩ v7).setCell ⟨B, k * 11 + 8, none⟩ v8).setCell ⟨B, k * 11 + 9, none⟩ v9).setCell ⟨B, k * 11 + 10, none⟩ v10).heap.size = w1.heap.size := by simp [World.setCell]
  intro i hi hik
  by_cases e : i = k
  · subst e
    refine ⟨wv, ?_, ?_⟩
    · rw [cell_set_ne0 _ _ _ _ _ (by omega), cell_set_ne0 _ _ _ _ _ (by omega), cell_set_ne0 _ _ _ _ _ (by omega), cell_set_ne0 _ _ _ _ _ (by omega), cell_set_ne0 _ _ _ _ _ (by omega), cell_set_ne0 _ _ _ _ _ (by omega), cell_set_eq _ _ _ _ (by rw [cell_set_ne0 _ _ _ _ _ (by omega), cell_set_ne0 _ _ _ _ _ (by omega), cell_set_ne0 _ _ _ _ _ (by omega), cell_set_ne0 _ _ _ _ _ (by omega)]; exact ho)]
    · rw [hz]
      repeat (refine Writ.setCell ?_ (by simp only []; omega) _)
      exact hs
  · obtain ⟨wv', h1, h2⟩ := h i hi (by omega)
    refine ⟨wv', ?_, ?_⟩
    · rw [cell_set_ne0 _ _ _ _ _ (by omega), cell_set_ne0 _ _ _ _ _ (by omega), cell_set_ne0 _ _ _ _ _ (by omega), cell_set_ne0 _ _ _ _ _ (by omega), cell_set_ne0 _ _ _ _ _ (by omega), cell_set_ne0 _ _ _ _ _ (by omega), cell_set_ne0 _ _ _ _ _ (by omega), cell_set_ne0 _ _ _ _ _ (by omega), cell_set_ne0 _ _ _ _ _ (by omega), cell_set_ne0 _ _ _ _ _ (by omega), cell_set_ne0 _ _ _ _ _ (by omega)]; exact h1
    · rw [hz]
      repeat (refine Writ.setCell ?_ (by simp only []; omega) _)
      exact h2
theorem FdOwns.done {wr : World} {B : Nat} {Fs : List Fd} {k : Nat} (h : FdOwns wr B Fs k) (hf : FdsFill wr B Fs k) (hk : Fs.length ≤ k) (hne : Fs ≠ []) (hm : Fs.length ≤ maxLen) (hn : FdsSmall Fs) : FdsW B wr.heap.size wr (.slice (some ⟨B, 0, none⟩) Fs.length Fs.length) Fs.length := by
  refine Or.inr ⟨B, 0, Fs.length, rfl, List.length_pos_iff.2 hne, hm, Nat.le_refl _, hf.lt, fun i hi => ?_⟩
  obtain ⟨wv, h1, h2⟩ := h i hi (by omega)
  refine ⟨wv, _, ⟨hf.lt, ?_, fun j hj => ?_, by rw [Nat.zero_add]; exact h1, hf.free⟩, h2, hn.2 i hi⟩
  · obtain ⟨v, hv⟩ := hf.there (i * 11) (by omega); rw [Nat.zero_add, hv]; rfl
  · obtain ⟨v, hv⟩ := hf.there (i * 11 + j) (by omega); rw [Nat.zero_add, hv]; rfl

end Go.Proofs.Ytmaagbnjpdijnaa

namespace Go.Proofs.Ytmaagbnjpdijnaa
open Go.RowKit Go.Deep

theorem FdsW.wide {lo hi lo' hi' : Nat} {w : World} {v : Value} {n : Nat} (h : FdsW lo hi w v n) (h1 : lo' ≤ lo) (h2 : hi ≤ hi') : FdsW lo' hi' w v n := by
  rcases h with h | ⟨b, off, cap, q1, q2, q3, q4, q5, q6⟩
  · exact Or.inl h
  · refine Or.inr ⟨b, off, cap, q1, q2, q3, by omega, by omega, fun i hi' => ?_⟩
    obtain ⟨wv, m, hs, hw, hm⟩ := q6 i hi'
    exact ⟨wv, m, hs, hw.wide (Nat.le_refl _) h2, hm⟩
theorem FdsW.setCell {lo hi : Nat} {w : World} {v : Value} {n : Nat} (h : FdsW lo hi w v n) {p : Addr} (hp : p.block < lo) (u : Value) : FdsW lo hi (w.setCell p u) v n := by
  rcases h with h | ⟨b, off, cap, q1, q2, q3, q4, q5, q6⟩
  · exact Or.inl h
  · refine Or.inr ⟨b, off, cap, q1, q2, q3, q4, q5, fun i hi' => ?_⟩
    obtain ⟨wv, m, hs, hw, hm⟩ := q6 i hi'
    have e : ∀ o, (w.setCell p u).cell? ⟨b, o, none⟩ = w.cell? ⟨b, o, none⟩ := fun o => cell_setCell_ne _ _ _ _ (by show b ≠ p.block; omega)
    exact ⟨wv, m, ⟨by simpa [World.setCell] using hs.lt, by rw [e]; exact hs.c0, fun j hj => by rw [e]; exact hs.cj j hj, by rw [e]; exact hs.four, fun i => by rw [World.frozen?_setCell]; exact hs.fr i⟩, hw.setCell (by omega) u, hm⟩

/-- the first k shapes may be written, each in a stretch of its own -/
def ShOwns (wr : World) (B : Nat) (Ss : List Sh) (k : Nat) : Prop :=
  ∃ m : Nat → Nat, B < m 0 ∧ (∀ i j, i ≤ j → m i ≤ m j) ∧ (∀ i, m i ≤ wr.heap.size) ∧ ∀ i (h : i < Ss.length), i < k → ∃ fv, wr.cell? ⟨B, i * 2 + 1, none⟩ = some fv ∧ FdsW (m i) (m (i + 1)) wr fv Ss[i].fields.length
theorem ShOwns.below {wr w1 : World} {B : Nat} {Ss : List Sh} {k : Nat} (h : ShOwns wr B Ss k) (hb : Below wr.heap.size wr w1) (hB : B < wr.heap.size) : ShOwns w1 B Ss k := by
  obtain ⟨m, h1, h2, h3, h4⟩ := h
  refine ⟨m, h1, h2, fun i => Nat.le_trans (h3 i) hb.size, fun i hi hik => ?_⟩
  obtain ⟨fv, q1, q2⟩ := h4 i hi hik
  exact ⟨fv, by rw [hb.cell (p := ⟨B, _, none⟩) hB]; exact q1, q2.kept (Kept.below (lo := m (i + 1)) (hi := 0) hb) (Or.inl (Nat.le_refl _))⟩
theorem ShOwns.step {wr w1 : World} {B : Nat} {Ss : List Sh} {k : Nat} {fv v0 o1 : Value} (h : ShOwns wr B Ss k) (hb : Below wr.heap.size wr w1) (hB : B < wr.heap.size) (hk : k < Ss.length) (ho : w1.cell? ⟨B, k * 2 + 1, none⟩ = some o1) (hs : FdsW wr.heap.size w1.heap.size w1 fv Ss[k].fields.length) :
    ShOwns ((w1.setCell ⟨B, k * 2, none⟩ v0).setCell ⟨B, k * 2 + 1, none⟩ fv) B Ss (k + 1) := by
  obtain ⟨m, h1, h2, h3, h4⟩ := h
  have hz : ((w1.setCell ⟨B, k * 2, none⟩ v0).setCell ⟨B, k * 2 + 1, none⟩ fv).heap.size = w1.heap.size := by simp [World.setCell]
  refine ⟨fun i => if i ≤ k then m i else w1.heap.size, by simpa using h1, fun i j hij => ?_, fun i => ?_, fun i hi hik => ?_⟩
  · simp only []
    by_cases a1 : i ≤ k
    · rw [if_pos a1]
      by_cases a2 : j ≤ k
      · rw [if_pos a2]; exact h2 i j hij
      · rw [if_neg a2]; exact Nat.le_trans (h3 i) hb.size
    · rw [if_neg a1, if_neg (by omega)]; exact Nat.le_refl _
  · simp only []
    rw [hz]
    by_cases a1 : i ≤ k
    · rw [if_pos a1]; exact Nat.le_trans (h3 i) hb.size
    · rw [if_neg a1]; exact Nat.le_refl _
  · simp only []
    have hm0 : ∀ i, m 0 ≤ m i := fun i => h2 0 i (Nat.zero_le _)
    by_cases e : i = k
    · subst e
      refine ⟨fv, ?_, ?_⟩
      · rw [cell_set_eq _ _ _ _ (by rw [cell_set_ne0 _ _ _ _ _ (by omega)]; exact ho)]
      · rw [if_pos (Nat.le_refl _), if_neg (by omega)]
        exact ((hs.wide (h3 i) (Nat.le_refl _)).setCell (by have := hm0 i; simp only []; omega) _).setCell (by have := hm0 i; simp only []; omega) _
    · obtain ⟨fv', q1, q2⟩ := h4 i hi (by omega)
      refine ⟨fv', ?_, ?_⟩
      · rw [cell_set_ne0 _ _ _ _ _ (by omega), cell_set_ne0 _ _ _ _ _ (by omega), hb.cell (p := ⟨B, _, none⟩) hB]; exact q1
      · rw [if_pos (by omega), if_pos (by omega)]
        exact ((q2.kept (Kept.below (lo := m (i + 1)) (hi := 0) hb) (Or.inl (Nat.le_refl _))).setCell (by have := hm0 i; simp only []; omega) _).setCell (by have := hm0 i; simp only []; omega) _
theorem ShOwns.done {wr : World} {B : Nat} {Ss : List Sh} {k : Nat} (h : ShOwns wr B Ss k) (hf : ShsFill wr B Ss k) (hk : Ss.length ≤ k) (hne : Ss ≠ []) (hm : Ss.length ≤ maxLen) (hn : ShsSmall Ss) : ShsW B wr.heap.size wr (.slice (some ⟨B, 0, none⟩) Ss.length Ss.length) Ss.length := by
  obtain ⟨m, h1, h2, h3, h4⟩ := h
  refine Or.inr ⟨B, 0, Ss.length, m, rfl, List.length_pos_iff.2 hne, hm, Nat.le_refl _, hf.lt, h1, h2, h3 _, fun i hi _ => ?_⟩
  obtain ⟨fv, q1, q2⟩ := h4 i hi (by omega)
  refine ⟨fv, _, ⟨hf.lt, ?_, by rw [Nat.zero_add]; exact q1, hf.free⟩, q2, (hn.2 i hi).1⟩
  obtain ⟨v, hv⟩ := hf.there (i * 2) (by omega); rw [Nat.zero_add, hv]; rfl

section
variable (kind nm team : ByteArray) (vv hv : Value) (en : Bool) (ver : Int) (V Ho : List ByteArray) (w : World)

end
end Go.Proofs.Ytmaagbnjpdijnaa

