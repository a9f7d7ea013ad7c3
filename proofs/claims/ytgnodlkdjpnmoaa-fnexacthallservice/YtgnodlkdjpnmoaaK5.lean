import Derived.Test.YtgnodlkdjpnmoaaK4
namespace Go.Proofs.Ytgnodlkdjpnmoaa
open Go.RowKit Go.Deep

theorem FdsW.setCell {lo hi : Nat} {w : World} {v : Value} {n : Nat} (h : FdsW lo hi w v n) {p : Addr} (hp : p.block < lo) (u : Value) : FdsW lo hi (w.setCell p u) v n := by
  rcases h with h | ⟨b, off, cap, q1, q2, q3, q4, q5, q6⟩
  · exact Or.inl h
  · refine Or.inr ⟨b, off, cap, q1, q2, q3, q4, q5, fun i hi' => ?_⟩
    obtain ⟨wv, m, hs, hw, hm⟩ := q6 i hi'
    have e : ∀ o, (w.setCell p u).cell? ⟨b, o, none⟩ = w.cell? ⟨b, o, none⟩ := fun o => cell_setCell_ne _ _ _ _ (by show b ≠ p.block; omega)
    exact ⟨wv, m, ⟨by simpa [World.setCell] using hs.lt, by rw [e]; exact hs.c0, fun j hj => by rw [e]; exact hs.cj j hj, by rw [e]; exact hs.four, fun i => by rw [World.frozen?_setCell]; exact hs.fr i⟩, hw.setCell (by omega) u, hm⟩

/-- the first k shapes may be written, each in a stretch of its own -/
def ShOwns (wr : World) (B : Nat) (Ss : List Sh) (k : Nat) : Prop :=
  ∃ m : Nat → Nat, B < m 0 ∧ (∀ i j, i ≤ j → m i ≤ m j) ∧ (∀ i, m i ≤ wr.heap.size) ∧ ∀ i (h : i < Ss.length), i < k → ∃ fv, wr.cell? ⟨B, i * 2 + 1, none⟩ = some fv ∧ FdsW (m i) (m (i + 1)) wr fv Ss[i].fields.length
theorem ShOwns.below {wr w1 : World} {B : Nat} {Ss : List Sh} {k : Nat} (h : ShOwns wr B Ss k) (hb : Below wr.heap.size wr w1) (hB : B < wr.heap.size) : ShOwns w1 B Ss k := by
  obtain ⟨m, h1, h2, h3, h4⟩ := h
  refine ⟨m, h1, h2, fun i => Nat.le_trans (h3 i) hb.size, fun i hi hik => ?_⟩
  obtain ⟨fv, q1, q2⟩ := h4 i hi hik
  exact ⟨fv, by rw [hb.cell (p := ⟨B, _, none⟩) hB]; exact q1, q2.kept (Kept.below (lo := m (i + 1)) (hi := 0) hb) (Or.inl (Nat.le_refl _))⟩
section
variable (kind nm team : ByteArray) (vv hv : Value) (en : Bool) (ver : Int) (V Ho : List ByteArray) (w : World)

end
end Go.Proofs.Ytgnodlkdjpnmoaa

