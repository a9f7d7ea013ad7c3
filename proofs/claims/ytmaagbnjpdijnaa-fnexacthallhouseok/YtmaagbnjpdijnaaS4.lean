import Derived.Test.YtmaagbnjpdijnaaS3
namespace Go.Proofs.Ytmaagbnjpdijnaa
open Go.RowKit Go.Deep

theorem FdCells.setCell {w : World} {b o : Nat} {f : Fd} {wv : Value} (h : FdCells w b o f wv) {p : Addr} (hp : b ≠ p.block) (u : Value) : FdCells (w.setCell p u) b o f wv := by
  have e : ∀ o, (w.setCell p u).cell? ⟨b, o, none⟩ = w.cell? ⟨b, o, none⟩ := fun o => cell_setCell_ne _ _ _ _ hp
  exact ⟨by rw [e]; exact h.c0, by rw [e]; exact h.c1, by rw [e]; exact h.c2, by rw [e]; exact h.c3, by rw [e]; exact h.c4, by rw [e]; exact h.c5, by rw [e]; exact h.c6, by rw [e]; exact h.c7, by rw [e]; exact h.c8, by rw [e]; exact h.c9, by rw [e]; exact h.c10⟩
theorem FdsAt.setCell {lo : Nat} {w : World} {v : Value} {Fs : List Fd} (h : FdsAt lo w v Fs) {p : Addr} (hp : p.block < lo) (u : Value) : FdsAt lo (w.setCell p u) v Fs := by
  rcases h with h | ⟨b, off, cap, h1, h2, h3, h4, h5, h6, h7⟩
  · exact Or.inl h
  · refine Or.inr ⟨b, off, cap, h1, h2, h3, by simpa [World.setCell] using h4, h5, h6, fun i hi => ?_⟩
    obtain ⟨hs, wv, hc, hw⟩ := h7 i hi
    exact ⟨hs, wv, hc.setCell (by omega) u, hw.setCell hp u⟩

def ShsFill (wr : World) (B : Nat) (Ss : List Sh) (k : Nat) : Prop :=
  ∃ f, wr.rowIs B 68 (Ss.length * 2) f ∧ ∀ i (h : i < Ss.length), i < k → Ss[i].kind.size ≤ maxLen ∧ ∃ fv, f (i * 2) = .string Ss[i].kind ∧ f (i * 2 + 1) = fv ∧ FdsAt (B + 1) wr fv Ss[i].fields

theorem ShsFill.below {wr w1 : World} {B : Nat} {Ss : List Sh} {k : Nat} (h : ShsFill wr B Ss k) (hb : Below wr.heap.size wr w1) : ShsFill w1 B Ss k := by
  obtain ⟨f, hr, hall⟩ := h
  refine ⟨f, hr.of_block (hb.block B hr.lt), fun i hi hik => ?_⟩
  obtain ⟨hs, fv, h0, h1, h2⟩ := hall i hi hik
  exact ⟨hs, fv, h0, h1, h2.below hb⟩
theorem ShsFill.free {wr : World} {B : Nat} {Ss : List Sh} {k : Nat} (h : ShsFill wr B Ss k) (i : Nat) : wr.frozen? ⟨B, i, none⟩ = false := by
  obtain ⟨f, hr, _⟩ := h
  exact hr.frozen i
theorem ShsFill.there {wr : World} {B : Nat} {Ss : List Sh} {k : Nat} (h : ShsFill wr B Ss k) (i : Nat) (hi : i < Ss.length * 2) : ∃ v, wr.cell? ⟨B, i, none⟩ = some v := by
  obtain ⟨f, hr, _⟩ := h
  exact ⟨_, hr.cell hi⟩
theorem ShsFill.lt {wr : World} {B : Nat} {Ss : List Sh} {k : Nat} (h : ShsFill wr B Ss k) : B < wr.heap.size := by
  obtain ⟨f, hr, _⟩ := h
  exact hr.lt
theorem ShsFill.step {w1 : World} {B : Nat} {Ss : List Sh} {k : Nat} {fv : Value} (h : ShsFill w1 B Ss k) (hk : k < Ss.length) (hz : Ss[k].kind.size ≤ maxLen) (hs : FdsAt (B + 1) w1 fv Ss[k].fields) :
    ShsFill ((w1.setCell ⟨B, k * 2, none⟩ (.string Ss[k].kind)).setCell ⟨B, k * 2 + 1, none⟩ fv) B Ss (k + 1) := by
  obtain ⟨f, hr, hall⟩ := h
  refine ⟨_, ((hr.set _ _).set _ _), fun i hi hik => ?_⟩
  by_cases e : i = k
  · subst e
    refine ⟨hz, fv, ?_, ?_, ?_⟩
    · simp
    · simp
    · exact (hs.setCell (by simp only []; omega) _).setCell (by simp only []; omega) _
  · obtain ⟨hz', fv', h0, h1, hst⟩ := hall i hi (by omega)
    refine ⟨hz', fv', ?_, ?_, ?_⟩
    · rw [if_neg (by omega), if_neg (by omega)]; exact h0
    · rw [if_neg (by omega), if_neg (by omega)]; exact h1
    · exact (hst.setCell (by simp only []; omega) _).setCell (by simp only []; omega) _
theorem ShsFill.done {wr : World} {B : Nat} {Ss : List Sh} {k : Nat} (h : ShsFill wr B Ss k) (hk : Ss.length ≤ k) (hne : Ss ≠ []) (hm : Ss.length ≤ maxLen) : ShsAt B wr (.slice (some ⟨B, 0, none⟩) Ss.length Ss.length) Ss := by
  obtain ⟨f, hr, hall⟩ := h
  refine Or.inr ⟨B, 0, Ss.length, rfl, hne, hm, hr.lt, Nat.le_refl _, fun i hi => ?_⟩
  obtain ⟨hz, fv, h0, h1, hst⟩ := hall i hi (by omega)
  refine ⟨hz, fv, ?_, ?_, hst.mono (by omega)⟩
  · rw [Nat.zero_add, hr.cell (by omega), h0]
  · rw [Nat.zero_add, hr.cell (by omega), h1]
theorem ShsFill.new (w : World) (Ss : List Sh) (z : Array Value) : ShsFill (w.alloc (.cells (madeCells z (Ss.length * 2)) 68)) w.heap.size Ss 0 := by
  refine ⟨fun i => (madeCells z (Ss.length * 2)).getD i default, ?_, fun i _ h => by omega⟩
  have := World.rowIs_alloc w (madeCells z (Ss.length * 2)) 68 (fun i => (madeCells z (Ss.length * 2)).getD i default) (fun i hi => by simp [Array.getD, hi])
  rwa [size_madeCells] at this

end Go.Proofs.Ytmaagbnjpdijnaa

