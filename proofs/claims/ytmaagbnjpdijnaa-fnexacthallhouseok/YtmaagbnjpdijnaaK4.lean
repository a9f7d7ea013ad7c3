import Derived.Test.YtmaagbnjpdijnaaK3
import Derived.Test.YtmaagbnjpdijnaaC2
namespace Go.Proofs.Ytmaagbnjpdijnaa
open Go.RowKit Go.Deep

theorem Filled.own {wr : World} {B : Nat} {L : List ByteArray} {k : Nat} (h : Filled wr B L k) (hk : L.length ≤ k) (hne : L ≠ []) (hm : L.length ≤ maxLen) (hs : ∀ s ∈ L, s.size ≤ maxLen) : StrsOwn B wr.heap.size wr (.slice (some ⟨B, 0, none⟩) L.length L.length) L := by
  refine Or.inr ⟨B, 0, L.length, rfl, hne, hm, World.rowIs.lt h, fun i hi => ?_, hs, Nat.le_refl _, World.rowIs.lt h, fun i => World.rowIs.frozen h _⟩
  rw [Nat.zero_add, World.rowIs.cell h hi]
  unfold fillF
  rw [if_pos (by omega), List.getD_eq_getElem?_getD, List.getElem?_eq_getElem hi]; rfl

theorem Writ.setCell {lo hi : Nat} {w : World} {v : Value} {n : Nat} (h : Writ lo hi w v n) {p : Addr} (hp : p.block < lo) (u : Value) : Writ lo hi (w.setCell p u) v n := by
  rcases h with h | ⟨b, off, cap, h1, h2, h3, h4, h5, h6, h7, h8⟩
  · exact Or.inl h
  · exact Or.inr ⟨b, off, cap, h1, h2, h3, by simpa [World.setCell] using h4, fun i hi' => by rw [cell_setCell_ne _ _ _ _ (by show b ≠ p.block; omega)]; exact h5 i hi', h6, h7, fun i => by rw [World.frozen?_setCell]; exact h8 i⟩

/-- the words of the first k fields may be written -/
def FdOwns (wr : World) (B : Nat) (Fs : List Fd) (k : Nat) : Prop :=
  ∀ i (h : i < Fs.length), i < k → ∃ wv, wr.cell? ⟨B, i * 11 + 4, none⟩ = some wv ∧ Writ (B + 1) wr.heap.size wr wv Fs[i].words.length
theorem FdOwns.below {wr w1 : World} {B : Nat} {Fs : List Fd} {k : Nat} (h : FdOwns wr B Fs k) (hb : Below wr.heap.size wr w1) (hB : B < wr.heap.size) : FdOwns w1 B Fs k := fun i hi hik => by
  obtain ⟨wv, h1, h2⟩ := h i hi hik
  exact ⟨wv, by rw [hb.cell (p := ⟨B, _, none⟩) hB]; exact h1, (h2.kept (Kept.below (lo := 0) (hi := 0) hb)).wide (Nat.le_refl _) hb.size⟩
theorem FdOwns.step {w1 : World} {B : Nat} {Fs : List Fd} {k : Nat} {wv v0 v1 v2 v3 v5 v6 v7 v8 v9 v10 o4 : Value} (h : FdOwns w1 B Fs k) (hk : k < Fs.length) (ho : w1.cell? ⟨B, k * 11 + 4, none⟩ = some o4) (hs : Writ (B + 1) w1.heap.size w1 wv Fs[k].words.length) :
    FdOwns (((((((((((w1.setCell ⟨B, k * 11, none⟩ v0).setCell ⟨B, k * 11 + 1, none⟩ v1).setCell ⟨B, k * 11 + 2, none⟩ v2).setCell ⟨B, k * 11 + 3, none⟩ v3).setCell ⟨B, k * 11 + 4, none⟩ wv).setCell ⟨B, k * 11 + 5, none⟩ v5).setCell ⟨B, k * 11 + 6, none⟩ v6).setCell ⟨B, k * 11 + 7, none⟩ v7).setCell ⟨B, k * 11 + 8, none⟩ v8).setCell ⟨B, k * 11 + 9, none⟩ v9).setCell ⟨B, k * 11 + 10, none⟩ v10) B Fs (k + 1) := by
  have hz : (((((((((((w1.setCell ⟨B, k * 11, none⟩ v0).setCell ⟨B, k * 11 + 1, none⟩ v1).setCell ⟨B, k * 11 + 2, none⟩ v2).setCell ⟨B, k * 11 + 3, none⟩ v3).setCell ⟨B, k * 11 + 4, none⟩ wv).setCell ⟨B, k * 11 + 5, none⟩ v5).setCell ⟨B, k * 11 + 6, none⟩ v6).setCell ⟨B, k * 11 + 7, none⟩ v7).setCell ⟨B, k * 11 + 8, none⟩ v8).setCell ⟨B, k * 11 + 9, none⟩ v9).setCell ⟨B, k * 11 + 10, none⟩ v10).heap.size = w1.heap.size := by simp [World.setCell]
  intro i hi hik
  by_cases e : i = k
  · subst e
    refine ⟨wv, ?_, ?_⟩
    · rw [cell_set_ne0 _ _ _ _ _ (by omega), cell_set_ne0 _ _ _ _ _ (by omega), cell_set_ne0 _ _ _ _ _ (by omega), cell_set_ne0 _ _ _ _ _ (by omega), cell_set_ne0 _ _ _ _ _ (by omega), cell_set_ne0 _ _ _ _ _ (by omega), cell_set_eq _ _ _ _ (by rw [cell_set_ne0 _ _ _ _ _ (by omega), cell_set_ne0 _ _ _ _ _ (by omega), cell_set_ne0 _ _ _ _ _ (by omega), cell_set_ne0 _ _ _ _ _ (by omega)]; exact ho)]
    · rw [hz]
      repeat (refine Writ.setCell ?_ (by simp only []; omega) _)
      exact hs
  · obtain ⟨wv', h1, h2⟩ := h i hi (by omega)
    refine ⟨wv', ?_, ?_⟩
    · rw [cell_set_ne0 _ _ _ _ _ (by omega), cell_set_ne0 _ _ _ _ _ (by omega), cell_set_ne0 _ _ _ _ _ (by omega), cell_set_ne0 _ _ _ _ _ (by omega), cell_set_ne0 _ _ _ _ _ (by omega), cell_set_ne0 _ _ _ _ _ (by omega), cell_set_ne0 _ _ _ _ _ (by omega), cell_set_ne0 _ _ _ _ _ (by omega), cell_set_ne0 _ _ _ _ _ (by omega), cell_set_ne0 _ _ _ _ _ (by omega), cell_set_ne0 _ _ _ _ _ (by omega)]; exact h1
    · rw [hz]
      repeat (refine Writ.setCell ?_ (by simp only []; omega) _)
      exact h2
theorem FdOwns.done {wr : World} {B : Nat} {Fs : List Fd} {k : Nat} (h : FdOwns wr B Fs k) (hf : FdsFill wr B Fs k) (hk : Fs.length ≤ k) (hne : Fs ≠ []) (hm : Fs.length ≤ maxLen) (hn : FdsSmall Fs) : FdsW B wr.heap.size wr (.slice (some ⟨B, 0, none⟩) Fs.length Fs.length) Fs.length := by
  refine Or.inr ⟨B, 0, Fs.length, rfl, List.length_pos_iff.2 hne, hm, Nat.le_refl _, hf.lt, fun i hi => ?_⟩
  obtain ⟨wv, h1, h2⟩ := h i hi (by omega)
  refine ⟨wv, _, ⟨hf.lt, ?_, fun j hj => ?_, by rw [Nat.zero_add]; exact h1, hf.free⟩, h2, hn.2 i hi⟩
  · obtain ⟨v, hv⟩ := hf.there (i * 11) (by omega); rw [Nat.zero_add, hv]; rfl
  · obtain ⟨v, hv⟩ := hf.there (i * 11 + j) (by omega); rw [Nat.zero_add, hv]; rfl

theorem StrsOwn.in {lo hi : Nat} {w : World} {v : Value} {L : List ByteArray} (h : StrsOwn lo hi w v L) : StrsIn lo w v L := by
  rcases h with h | ⟨b, off, cap, h1, h2, h3, h4, h5, h6, h7, _⟩
  · exact Or.inl h
  · exact Or.inr ⟨b, off, cap, h1, h2, h3, h4, h5, h6, h7⟩
end Go.Proofs.Ytmaagbnjpdijnaa

