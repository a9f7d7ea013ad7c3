import Derived.Test.YtgnodlkdjpnmoaaK3
import Derived.Test.YtgnodlkdjpnmoaaC2
namespace Go.Proofs.Ytgnodlkdjpnmoaa
open Go.RowKit Go.Deep

theorem Writ.setCell {lo hi : Nat} {w : World} {v : Value} {n : Nat} (h : Writ lo hi w v n) {p : Addr} (hp : p.block < lo) (u : Value) : Writ lo hi (w.setCell p u) v n := by
  rcases h with h | ⟨b, off, cap, h1, h2, h3, h4, h5, h6, h7, h8⟩
  · exact Or.inl h
  · exact Or.inr ⟨b, off, cap, h1, h2, h3, by simpa [World.setCell] using h4, fun i hi' => by rw [cell_setCell_ne _ _ _ _ (by show b ≠ p.block; omega)]; exact h5 i hi', h6, h7, fun i => by rw [World.frozen?_setCell]; exact h8 i⟩

/-- the words of the first k fields may be written -/
def FdOwns (wr : World) (B : Nat) (Fs : List Fd) (k : Nat) : Prop :=
  ∀ i (h : i < Fs.length), i < k → ∃ wv, wr.cell? ⟨B, i * 11 + 4, none⟩ = some wv ∧ Writ (B + 1) wr.heap.size wr wv Fs[i].words.length
theorem FdOwns.below {wr w1 : World} {B : Nat} {Fs : List Fd} {k : Nat} (h : FdOwns wr B Fs k) (hb : Below wr.heap.size wr w1) (hB : B < wr.heap.size) : FdOwns w1 B Fs k := fun i hi hik => by
  obtain ⟨wv, h1, h2⟩ := h i hi hik
  exact ⟨wv, by rw [hb.cell (p := ⟨B, _, none⟩) hB]; exact h1, (h2.kept (Kept.below (lo := 0) (hi := 0) hb)).wide (Nat.le_refl _) hb.size⟩
end Go.Proofs.Ytgnodlkdjpnmoaa

