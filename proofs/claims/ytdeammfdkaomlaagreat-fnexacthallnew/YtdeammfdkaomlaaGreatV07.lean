import Derived.Test.YtdeammfdkaomlaaGreatV02
import Derived.Test.YtdeammfdkaomlaaGreatV06
namespace Go.Proofs.YtdeammfdkaomlaaGreat
open Go.RowKit Go.Deep

theorem Filled.own {wr : World} {B : Nat} {L : List ByteArray} {k : Nat} (h : Filled wr B L k) (hk : L.length ≤ k) (hne : L ≠ []) (hm : L.length ≤ maxLen) (hs : ∀ s ∈ L, s.size ≤ maxLen) : StrsOwn B wr.heap.size wr (.slice (some ⟨B, 0, none⟩) L.length L.length) L := by
  refine Or.inr ⟨B, 0, L.length, rfl, hne, hm, World.rowIs.lt h, fun i hi => ?_, hs, Nat.le_refl _, World.rowIs.lt h, fun i => World.rowIs.frozen h _⟩
  rw [Nat.zero_add, World.rowIs.cell h hi]
  unfold fillF
  rw [if_pos (by omega), List.getD_eq_getElem?_getD, List.getElem?_eq_getElem hi]; rfl

theorem Writ.setCell {lo hi : Nat} {w : World} {v : Value} {n : Nat} (h : Writ lo hi w v n) {p : Addr} (hp : p.block < lo) (u : Value) : Writ lo hi (w.setCell p u) v n := by
  rcases h with h | ⟨b, off, cap, h1, h2, h3, h4, h5, h6, h7, h8⟩
  · exact Or.inl h
  · exact Or.inr ⟨b, off, cap, h1, h2, h3, by simpa [World.setCell] using h4, fun i hi' => by rw [cell_setCell_ne _ _ _ _ (by show b ≠ p.block; omega)]; exact h5 i hi', h6, h7, fun i => by rw [World.frozen?_setCell]; exact h8 i⟩

/-- the words of the first k fields may be written -/
def FdOwns (wr : World) (B : Nat) (Fs : List Fd) (k : Nat) : Prop :=
  ∀ i (h : i < Fs.length), i < k → ∃ wv, wr.cell? ⟨B, i * 11 + 4, none⟩ = some wv ∧ Writ (B + 1) wr.heap.size wr wv Fs[i].words.length
theorem FdOwns.below {wr w1 : World} {B : Nat} {Fs : List Fd} {k : Nat} (h : FdOwns wr B Fs k) (hb : Below wr.heap.size wr w1) (hB : B < wr.heap.size) : FdOwns w1 B Fs k := fun i hi hik => by
  obtain ⟨wv, h1, h2⟩ := h i hi hik
  exact ⟨wv, by rw [hb.cell (p := ⟨B, _, none⟩) hB]; exact h1, (h2.kept (Kept.below (lo := 0) (hi := 0) hb)).wide (Nat.le_refl _) hb.size⟩
theorem FdOwns.step {w1 : World} {B : Nat} {Fs : List Fd} {k : Nat} {wv v0 v1 v2 v3 v5 v6 v7 v8 v9 v10 o4 : Value} (h : FdOwns w1 B Fs k) (hk : k < Fs.length) (ho : w1.cell? ⟨B, k * 11 + 4, none⟩ = some o4) (hs : Writ (B + 1) w1.heap.size w1 wv Fs[k].words.length) :
    FdOwns (((((((((((w1.setCell ⟨B, k * 11, none⟩ v0).setCell ⟨B, k * 11 + 1, none⟩ v1).setCell ⟨B, k * 11 + 2, none⟩ v2).setCell ⟨B, k * 11 + 3, none⟩ v3).setCell ⟨B, k * 11 + 4, none⟩ wv).setCell ⟨B, k * 11 + 5, none⟩ v5).setCell ⟨B, k * 11 + 6, none⟩ v6).setCell ⟨B, k * 11 + 7, none⟩ v7).setCell ⟨B, k * 11 + 8, none⟩ v8).setCell ⟨B, k * 11 + 9, none⟩ v9).setCell ⟨B, k * 11 + 10, none⟩ v10) B Fs (k + 1) := by
  have hz : (((((((((((w1.setCell ⟨B, k * 11, none⟩ v0).setCell ⟨B, k * 11 + 1, none⟩ v1).setCell ⟨B, k * 11 + 2, none⟩ v2).setCell ⟨B, k * 11 + 3, none⟩ v3).setCell ⟨B, k * 11 + 4, none⟩ wv).setCell ⟨B, k * 11 + 5, none⟩ v5).setCell ⟨B, k * 11 + 6, none⟩ v6).setCell ⟨B, k * 11 + 7, none⟩ v7).setCell ⟨B, k * 11 + 8, none⟩ v8).setCell ⟨B, k * 11 + 9, none⟩ v9).setCell ⟨B, k * 11 + 10, none⟩ v10).heap.size = w1.heap.size := by simp [World.setCell]
  intro i hi hik
  by_cases e : i = k
  · subst e
    refine ⟨wv, ?_, ?_⟩
    · rw [cell_set_ne0 _ _ _ _ _ (by omega), cell_set_ne0 _ _ _ _ _ (by omega), cell_set_ne0 _ _ _ _ _ (by omega), cell_set_ne0 _ _ _ _ _ (by omega), cell_set_ne0 _ _ _ _ _ (by omega), cell_set_ne0 _ _ _ _ _ (by omega), cell_set_eq _ _ _ _ (by rw [cell_set_ne0 _ _ _ _ _ (by omega), cell_set_ne0 _ _ _ _ _ (by omega), cell_set_ne0 _ _ _ _ _ (by omega), cell_set_ne0 _ _ _ _ _ (by omega)]; exact ho)]
    · rw [hz]
      repeat (refine Writ.setCell ?_ (by simp only []; omega) _)
      exact hs
  · obtain ⟨wv', h1, h2⟩ := h i hi (by omega)
    refine ⟨wv', ?_, ?_⟩
    · rw [cell_set_ne0 _ _ _ _ _ (by omega), cell_set_ne0 _ _ _ _ _ (by omega), cell_set_ne0 _ _ _ _ _ (by omega), cell_set_ne0 _ _ _ _ _ (by omega), cell_set_ne0 _ _ _ _ _ (by omega), cell_set_ne0 _ _ _ _ _ (by omega), cell_set_ne0 _ _ _ _ _ (by omega), cell_set_ne0 _ _ _ _ _ (by omega), cell_set_ne0 _ _ _ _ _ (by omega), cell_set_ne0 _ _ _ _ _ (by omega), cell_set_ne0 _ _ _ _ _ (by omega)]; exact h1
    · rw [hz]
      repeat (refine Writ.setCell ?_ (by simp only []; omega) _)
      exact h2
end Go.Proofs.YtdeammfdkaomlaaGreat
namespace Go.Proofs.YtdeammfdkaomlaaGreat
open Go.RowKit Go.Deep

theorem FdsW.wide {lo hi lo' hi' : Nat} {w : World} {v : Value} {n : Nat} (h : FdsW lo hi w v n) (h1 : lo' ≤ lo) (h2 : hi ≤ hi') : FdsW lo' hi' w v n := by
  rcases h with h | ⟨b, off, cap, q1, q2, q3, q4, q5, q6⟩
  · exact Or.inl h
  · refine Or.inr ⟨b, off, cap, q1, q2, q3, by omega, by omega, fun i hi' => ?_⟩
    obtain ⟨wv, m, hs, hw, hm⟩ := q6 i hi'
    exact ⟨wv, m, hs, hw.wide (Nat.le_refl _) h2, hm⟩
theorem FdsW.setCell {lo hi : Nat} {w : World} {v : Value} {n : Nat} (h : FdsW lo hi w v n) {p : Addr} (hp : p.block < lo) (u : Value) : FdsW lo hi (w.setCell p u) v n := by
  rcases h with h | ⟨b, off, cap, q1, q2, q3, q4, q5, q6⟩
  · exact Or.inl h
  · refine Or.inr ⟨b, off, cap, q1, q2, q3, q4, q5, fun i hi' => ?_⟩
    obtain ⟨wv, m, hs, hw, hm⟩ := q6 i hi'
    have e : ∀ o, (w.setCell p u).cell? ⟨b, o, none⟩ = w.cell? ⟨b, o, none⟩ := fun o => cell_setCell_ne _ _ _ _ (by show b ≠ p.block; omega)
    exact ⟨wv, m, ⟨by simpa [World.setCell] using hs.lt, by rw [e]; exact hs.c0, fun j hj => by rw [e]; exact hs.cj j hj, by rw [e]; exact hs.four, fun i => by rw [World.frozen?_setCell]; exact hs.fr i⟩, hw.setCell (by omega) u, hm⟩

/-- the first k shapes may be written, each in a stretch of its own -/
def ShOwns (wr : World) (B : Nat) (Ss : List Sh) (k : Nat) : Prop :=
  ∃ m : Nat → Nat, B < m 0 ∧ (∀ i j, i ≤ j → m i ≤ m j) ∧ (∀ i, m i ≤ wr.heap.size) ∧ ∀ i (h : i < Ss.length), i < k → ∃ fv, wr.cell? ⟨B, i * 2 + 1, none⟩ = some fv ∧ FdsW (m i) (m (i + 1)) wr fv Ss[i].fields.length
theorem ShOwns.below {wr w1 : World} {B : Nat} {Ss : List Sh} {k : Nat} (h : ShOwns wr B Ss k) (hb : Below wr.heap.size wr w1) (hB : B < wr.heap.size) : ShOwns w1 B Ss k := by
  obtain ⟨m, h1, h2, h3, h4⟩ := h
  refine ⟨m, h1, h2, fun i => Nat.le_trans (h3 i) hb.size, fun i hi hik => ?_⟩
  obtain ⟨fv, q1, q2⟩ := h4 i hi hik
  exact ⟨fv, by rw [hb.cell (p := ⟨B, _, none⟩) hB]; exact q1, q2.kept (Kept.below (lo := m (i + 1)) (hi := 0) hb) (Or.inl (Nat.le_refl _))⟩
theorem ShOwns.step {wr w1 : World} {B : Nat} {Ss : List Sh} {k : Nat} {fv v0 o1 : Value} (h : ShOwns wr B Ss k) (hb : Below wr.heap.size wr w1) (hB : B < wr.heap.size) (hk : k < Ss.length) (ho : w1.cell? ⟨B, k * 2 + 1, none⟩ = some o1) (hs : FdsW wr.heap.size w1.heap.size w1 fv Ss[k].fields.length) :
    ShOwns ((w1.setCell ⟨B, k * 2, none⟩ v0).setCell ⟨B, k * 2 + 1, none⟩ fv) B Ss (k + 1) := by
  obtain ⟨m, h1, h2, h3, h4⟩ := h
  have hz : ((w1.setCell ⟨B, k * 2, none⟩ v0).setCell ⟨B, k * 2 + 1, none⟩ fv).heap.size = w1.heap.size := by simp [World.setCell]
  refine ⟨fun i => if i ≤ k then m i else w1.heap.size, by simpa using h1, fun i j hij => ?_, fun i => ?_, fun i hi hik => ?_⟩
  · simp only []
    by_cases a1 : i ≤ k
    · rw [if_pos a1]
      by_cases a2 : j ≤ k
      · rw [if_pos a2]; exact h2 i j hij
      · rw [if_neg a2]; exact Nat.le_trans (h3 i) hb.size
    · rw [if_neg a1, if_neg (by omega)]; exact Nat.le_refl _
  · simp only []
    rw [hz]
    by_cases a1 : i ≤ k
    · rw [if_pos a1]; exact Nat.le_trans (h3 i) hb.size
    · rw [if_neg a1]; exact Nat.le_refl _
  · simp only []
    have hm0 : ∀ i, m 0 ≤ m i := fun i => h2 0 i (Nat.zero_le _)
    by_cases e : i = k
    · subst e
      refine ⟨fv, ?_, ?_⟩
      · rw [cell_set_eq _ _ _ _ (by rw [cell_set_ne0 _ _ _ _ _ (by omega)]; exact ho)]
      · rw [if_pos (Nat.le_refl _), if_neg (by omega)]
        exact ((hs.wide (h3 i) (Nat.le_refl _)).setCell (by have := hm0 i; simp only []; omega) _).setCell (by have := hm0 i; simp only []; omega) _
    · obtain ⟨fv', q1, q2⟩ := h4 i hi (by omega)
      refine ⟨fv', ?_, ?_⟩
      · rw [cell_set_ne0 _ _ _ _ _ (by omega), cell_set_ne0 _ _ _ _ _ (by omega), hb.cell (p := ⟨B, _, none⟩) hB]; exact q1
      · rw [if_pos (by omega), if_pos (by omega)]
        exact ((q2.kept (Kept.below (lo := m (i + 1)) (hi := 0) hb) (Or.inl (Nat.le_refl _))).setCell (by have := hm0 i; simp only []; omega) _).setCell (by have := hm0 i; simp only []; omega) _
end Go.Proofs.YtdeammfdkaomlaaGreat
