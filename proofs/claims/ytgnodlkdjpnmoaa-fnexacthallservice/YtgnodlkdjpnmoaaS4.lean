import Derived.Test.YtgnodlkdjpnmoaaS1
import Derived.Deep.RegionWith
namespace Go.Proofs.Ytgnodlkdjpnmoaa
open Go.RowKit Go.Deep

theorem FdCells.setCell {w : World} {b o : Nat} {f : Fd} {wv : Value} (h : FdCells w b o f wv) {p : Addr} (hp : b ≠ p.block) (u : Value) : FdCells (w.setCell p u) b o f wv := by
  have e : ∀ o, (w.setCell p u).cell? ⟨b, o, none⟩ = w.cell? ⟨b, o, none⟩ := fun o => cell_setCell_ne _ _ _ _ hp
  exact ⟨by rw [e]; exact h.c0, by rw [e]; exact h.c1, by rw [e]; exact h.c2, by rw [e]; exact h.c3, by rw [e]; exact h.c4, by rw [e]; exact h.c5, by rw [e]; exact h.c6, by rw [e]; exact h.c7, by rw [e]; exact h.c8, by rw [e]; exact h.c9, by rw [e]; exact h.c10⟩
theorem FdsAt.setCell {lo : Nat} {w : World} {v : Value} {Fs : List Fd} (h : FdsAt lo w v Fs) {p : Addr} (hp : p.block < lo) (u : Value) : FdsAt lo (w.setCell p u) v Fs := by
  rcases h with h | ⟨b, off, cap, h1, h2, h3, h4, h5, h6, h7⟩
  · exact Or.inl h
  · refine Or.inr ⟨b, off, cap, h1, h2, h3, by simpa [World.setCell] using h4, h5, h6, fun i hi => ?_⟩
    obtain ⟨hs, wv, hc, hw⟩ := h7 i hi
    exact ⟨hs, wv, hc.setCell (by omega) u, hw.setCell hp u⟩

end Go.Proofs.Ytgnodlkdjpnmoaa

