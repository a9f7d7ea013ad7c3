import Derived.Test.YtjkkbkdpoebfaaaGreatV04
namespace Go.Proofs.YtjkkbkdpoebfaaaGreat
open Go.RowKit Go.Deep

/-- the eleven values of a field in a row told by its index -/
structure FdRow (f : Nat → Value) (o : Nat) (fd : Fd) (wv : Value) : Prop where
  r0 : f (o) = (.string fd.nm)
  r1 : f (o + 1) = (.int .i64 fd.kd)
  r2 : f (o + 2) = (.int .i64 fd.le)
  r3 : f (o + 3) = (.int .i64 fd.mo)
  r4 : f (o + 4) = wv
  r5 : f (o + 5) = (.string fd.to)
  r6 : f (o + 6) = (.int .i64 fd.ro)
  r7 : f (o + 7) = (.bool fd.mu)
  r8 : f (o + 8) = (.bool fd.fx)
  r9 : f (o + 9) = (.string fd.df)
  r10 : f (o + 10) = (.string fd.we)

def FdsFill (wr : World) (B : Nat) (Fs : List Fd) (k : Nat) : Prop :=
  ∃ f, wr.rowIs B 56 (Fs.length * 11) f ∧ ∀ i (h : i < Fs.length), i < k → FdSize Fs[i] ∧ ∃ wv, FdRow f (i * 11) Fs[i] wv ∧ StrsIn (B + 1) wr wv Fs[i].words

theorem FdsFill.below {wr w1 : World} {B : Nat} {Fs : List Fd} {k : Nat} (h : FdsFill wr B Fs k) (hb : Below wr.heap.size wr w1) : FdsFill w1 B Fs k := by
  obtain ⟨f, hr, hall⟩ := h
  refine ⟨f, hr.of_block (hb.block B hr.lt), fun i hi hik => ?_⟩
  obtain ⟨hs, wv, h1, h2⟩ := hall i hi hik
  exact ⟨hs, wv, h1, h2.below hb⟩
theorem FdsFill.free {wr : World} {B : Nat} {Fs : List Fd} {k : Nat} (h : FdsFill wr B Fs k) (i : Nat) : wr.frozen? ⟨B, i, none⟩ = false := by
  obtain ⟨f, hr, _⟩ := h
  exact hr.frozen i
theorem FdsFill.there {wr : World} {B : Nat} {Fs : List Fd} {k : Nat} (h : FdsFill wr B Fs k) (i : Nat) (hi : i < Fs.length * 11) : ∃ v, wr.cell? ⟨B, i, none⟩ = some v := by
  obtain ⟨f, hr, _⟩ := h
  exact ⟨_, hr.cell hi⟩
theorem FdsFill.lt {wr : World} {B : Nat} {Fs : List Fd} {k : Nat} (h : FdsFill wr B Fs k) : B < wr.heap.size := by
  obtain ⟨f, hr, _⟩ := h
  exact hr.lt

theorem FdsFill.step {w1 : World} {B : Nat} {Fs : List Fd} {k : Nat} {wv : Value} (h : FdsFill w1 B Fs k) (hk : k < Fs.length) (hz : FdSize Fs[k]) (hs : StrsIn (B + 1) w1 wv Fs[k].words) :
    FdsFill (((((((((((w1.setCell ⟨B, k * 11, none⟩ (.string Fs[k].nm)).setCell ⟨B, k * 11 + 1, none⟩ (.int .i64 Fs[k].kd)).setCell ⟨B, k * 11 + 2, none⟩ (.int .i64 Fs[k].le)).setCell ⟨B, k * 11 + 3, none⟩ (.int .i64 Fs[k].mo)).setCell ⟨B, k * 11 + 4, none⟩ wv).setCell ⟨B, k * 11 + 5, none⟩ (.string Fs[k].to)).setCell ⟨B, k * 11 + 6, none⟩ (.int .i64 Fs[k].ro)).setCell ⟨B, k * 11 + 7, none⟩ (.bool Fs[k].mu)).setCell ⟨B, k * 11 + 8, none⟩ (.bool Fs[k].fx)).setCell ⟨B, k * 11 + 9, none⟩ (.string Fs[k].df)).setCell ⟨B, k * 11 + 10, none⟩ (.string Fs[k].we)) B Fs (k + 1) := by
  obtain ⟨f, hr, hall⟩ := h
  refine ⟨_, (((((((((((hr.set _ _).set _ _).set _ _).set _ _).set _ _).set _ _).set _ _).set _ _).set _ _).set _ _).set _ _), fun i hi hik => ?_⟩
  by_cases e : i = k
  · subst e
    refine ⟨hz, wv, ⟨?_, ?_, ?_, ?_, ?_, ?_, ?_, ?_, ?_, ?_, ?_⟩, ?_⟩
    · simp
    · simp
    · simp
    · simp
    · simp
    · simp
    · simp
    · simp
    · simp
    · simp
    · simp
    · repeat (refine StrsIn.setCell ?_ (by simp only []; omega) _)
      exact hs
  · obtain ⟨hz', wv', hrow, hst⟩ := hall i hi (by omega)
    refine ⟨hz', wv', ⟨?_, ?_, ?_, ?_, ?_, ?_, ?_, ?_, ?_, ?_, ?_⟩, ?_⟩
    · rw [if_neg (by omega), if_neg (by omega), if_neg (by omega), if_neg (by omega), if_neg (by omega), if_neg (by omega), if_neg (by omega), if_neg (by omega), if_neg (by omega), if_neg (by omega), if_neg (by omega)]; exact hrow.r0
    · rw [if_neg (by omega), if_neg (by omega), if_neg (by omega), if_neg (by omega), if_neg (by omega), if_neg (by omega), if_neg (by omega), if_neg (by omega), if_neg (by omega), if_neg (by omega), if_neg (by omega)]; exact hrow.r1
    · rw [if_neg (by omega), if_neg (by omega), if_neg (by omega), if_neg (by omega), if_neg (by omega), if_neg (by omega), if_neg (by omega), if_neg (by omega), if_neg (by omega), if_neg (by omega), if_neg (by omega)]; exact hrow.r2
    · rw [if_neg (by omega), if_neg (by omega), if_neg (by omega), if_neg (by omega), if_neg (by omega), if_neg (by omega), if_neg (by omega), if_neg (by omega), if_neg (by omega), if_neg (by omega), if_neg (by omega)]; exact hrow.r3
    · rw [if_neg (by omega), if_neg (by omega), if_neg (by omega), if_neg (by omega), if_neg (by omega), if_neg (by omega), if_neg (by omega), if_neg (by omega), if_neg (by omega), if_neg (by omega), if_neg (by omega)]; exact hrow.r4
    · rw [if_neg (by omega), if_neg (by omega), if_neg (by omega), if_neg (by omega), if_neg (by omega), if_neg (by omega), if_neg (by omega), if_neg (by omega), if_neg (by omega), if_neg (by omega), if_neg (by omega)]; exact hrow.r5
    · rw [if_neg (by omega), if_neg (by omega), if_neg (by omega), if_neg (by omega), if_neg (by omega), if_neg (by omega), if_neg (by omega), if_neg (by omega), if_neg (by omega), if_neg (by omega), if_neg (by omega)]; exact hrow.r6
    · rw [if_neg (by omega), if_neg (by omega), if_neg (by omega), if_neg (by omega), if_neg (by omega), if_neg (by omega), if_neg (by omega), if_neg (by omega), if_neg (by omega), if_neg (by omega), if_neg (by omega)]; exact hrow.r7
    · rw [if_neg (by omega), if_neg (by omega), if_neg (by omega), if_neg (by omega), if_neg (by omega), if_neg (by omega), if_neg (by omega), if_neg (by omega), if_neg (by omega), if_neg (by omega), if_neg (by omega)]; exact hrow.r8
    · rw [if_neg (by omega), if_neg (by omega), if_neg (by omega), if_neg (by omega), if_neg (by omega), if_neg (by omega), if_neg (by omega), if_neg (by omega), if_neg (by omega), if_neg (by omega), if_neg (by omega)]; exact hrow.r9
    · rw [if_neg (by omega), if_neg (by omega), if_neg (by omega), if_neg (by omega), if_neg (by omega), if_neg (by omega), if_neg (by omega), if_neg (by omega), if_neg (by omega), if_neg (by omega), if_neg (by omega)]; exact hrow.r10
    · repeat (refine StrsIn.setCell ?_ (by simp only []; omega) _)
      exact hst

theorem FdsFill.done {wr : World} {B : Nat} {Fs : List Fd} {k : Nat} (h : FdsFill wr B Fs k) (hk : Fs.length ≤ k) (hne : Fs ≠ []) (hm : Fs.length ≤ maxLen) : FdsAt B wr (.slice (some ⟨B, 0, none⟩) Fs.length Fs.length) Fs := by
  obtain ⟨f, hr, hall⟩ := h
  refine Or.inr ⟨B, 0, Fs.length, rfl, hne, hm, hr.lt, Nat.le_refl _, Nat.le_refl _, fun i hi => ?_⟩
  obtain ⟨hz, wv, hrow, hst⟩ := hall i hi (by omega)
  refine ⟨hz, wv, ⟨?_, ?_, ?_, ?_, ?_, ?_, ?_, ?_, ?_, ?_, ?_⟩, hst.mono (by omega)⟩
  · rw [Nat.zero_add, hr.cell (by omega), hrow.r0]
  · rw [Nat.zero_add, hr.cell (by omega), hrow.r1]
  · rw [Nat.zero_add, hr.cell (by omega), hrow.r2]
  · rw [Nat.zero_add, hr.cell (by omega), hrow.r3]
  · rw [Nat.zero_add, hr.cell (by omega), hrow.r4]
  · rw [Nat.zero_add, hr.cell (by omega), hrow.r5]
  · rw [Nat.zero_add, hr.cell (by omega), hrow.r6]
  · rw [Nat.zero_add, hr.cell (by omega), hrow.r7]
  · rw [Nat.zero_add, hr.cell (by omega), hrow.r8]
  · rw [Nat.zero_add, hr.cell (by omega), hrow.r9]
  · rw [Nat.zero_add, hr.cell (by omega), hrow.r10]

theorem FdsFill.new (w : World) (Fs : List Fd) (z : Array Value) : FdsFill (w.alloc (.cells (madeCells z (Fs.length * 11)) 56)) w.heap.size Fs 0 := by
  refine ⟨fun i => (madeCells z (Fs.length * 11)).getD i default, ?_, fun i _ h => by omega⟩
  have := World.rowIs_alloc w (madeCells z (Fs.length * 11)) 56 (fun i => (madeCells z (Fs.length * 11)).getD i default) (fun i hi => by simp [Array.getD, hi])
  rwa [size_madeCells] at this

end Go.Proofs.YtjkkbkdpoebfaaaGreat
namespace Go.Proofs.YtjkkbkdpoebfaaaGreat
open Go.RowKit Go.Deep

theorem FdCells.setCell {w : World} {b o : Nat} {f : Fd} {wv : Value} (h : FdCells w b o f wv) {p : Addr} (hp : b ≠ p.block) (u : Value) : FdCells (w.setCell p u) b o f wv := by
  have e : ∀ o, (w.setCell p u).cell? ⟨b, o, none⟩ = w.cell? ⟨b, o, none⟩ := fun o => cell_setCell_ne _ _ _ _ hp
  exact ⟨by rw [e]; exact h.c0, by rw [e]; exact h.c1, by rw [e]; exact h.c2, by rw [e]; exact h.c3, by rw [e]; exact h.c4, by rw [e]; exact h.c5, by rw [e]; exact h.c6, by rw [e]; exact h.c7, by rw [e]; exact h.c8, by rw [e]; exact h.c9, by rw [e]; exact h.c10⟩
theorem FdsAt.setCell {lo : Nat} {w : World} {v : Value} {Fs : List Fd} (h : FdsAt lo w v Fs) {p : Addr} (hp : p.block < lo) (u : Value) : FdsAt lo (w.setCell p u) v Fs := by
  rcases h with h | ⟨b, off, cap, h1, h2, h3, h4, h5, h6, h7⟩
  · exact Or.inl h
  · refine Or.inr ⟨b, off, cap, h1, h2, h3, by simpa [World.setCell] using h4, h5, h6, fun i hi => ?_⟩
    obtain ⟨hs, wv, hc, hw⟩ := h7 i hi
    exact ⟨hs, wv, hc.setCell (by omega) u, hw.setCell hp u⟩

def ShsFill (wr : World) (B : Nat) (Ss : List Sh) (k : Nat) : Prop :=
  ∃ f, wr.rowIs B 45 (Ss.length * 2) f ∧ ∀ i (h : i < Ss.length), i < k → Ss[i].kind.size ≤ maxLen ∧ ∃ fv, f (i * 2) = .string Ss[i].kind ∧ f (i * 2 + 1) = fv ∧ FdsAt (B + 1) wr fv Ss[i].fields

theorem ShsFill.below {wr w1 : World} {B : Nat} {Ss : List Sh} {k : Nat} (h : ShsFill wr B Ss k) (hb : Below wr.heap.size wr w1) : ShsFill w1 B Ss k := by
  obtain ⟨f, hr, hall⟩ := h
  refine ⟨f, hr.of_block (hb.block B hr.lt), fun i hi hik => ?_⟩
  obtain ⟨hs, fv, h0, h1, h2⟩ := hall i hi hik
  exact ⟨hs, fv, h0, h1, h2.below hb⟩
theorem ShsFill.free {wr : World} {B : Nat} {Ss : List Sh} {k : Nat} (h : ShsFill wr B Ss k) (i : Nat) : wr.frozen? ⟨B, i, none⟩ = false := by
  obtain ⟨f, hr, _⟩ := h
  exact hr.frozen i
theorem ShsFill.there {wr : World} {B : Nat} {Ss : List Sh} {k : Nat} (h : ShsFill wr B Ss k) (i : Nat) (hi : i < Ss.length * 2) : ∃ v, wr.cell? ⟨B, i, none⟩ = some v := by
  obtain ⟨f, hr, _⟩ := h
  exact ⟨_, hr.cell hi⟩
theorem ShsFill.lt {wr : World} {B : Nat} {Ss : List Sh} {k : Nat} (h : ShsFill wr B Ss k) : B < wr.heap.size := by
  obtain ⟨f, hr, _⟩ := h
  exact hr.lt
theorem ShsFill.step {w1 : World} {B : Nat} {Ss : List Sh} {k : Nat} {fv : Value} (h : ShsFill w1 B Ss k) (hk : k < Ss.length) (hz : Ss[k].kind.size ≤ maxLen) (hs : FdsAt (B + 1) w1 fv Ss[k].fields) :
    ShsFill ((w1.setCell ⟨B, k * 2, none⟩ (.string Ss[k].kind)).setCell ⟨B, k * 2 + 1, none⟩ fv) B Ss (k + 1) := by
  obtain ⟨f, hr, hall⟩ := h
  refine ⟨_, ((hr.set _ _).set _ _), fun i hi hik => ?_⟩
  by_cases e : i = k
  · subst e
    refine ⟨hz, fv, ?_, ?_, ?_⟩
    · simp
    · simp
    · exact (hs.setCell (by simp only []; omega) _).setCell (by simp only []; omega) _
  · obtain ⟨hz', fv', h0, h1, hst⟩ := hall i hi (by omega)
    refine ⟨hz', fv', ?_, ?_, ?_⟩
    · rw [if_neg (by omega), if_neg (by omega)]; exact h0
    · rw [if_neg (by omega), if_neg (by omega)]; exact h1
    · exact (hst.setCell (by simp only []; omega) _).setCell (by simp only []; omega) _
theorem ShsFill.done {wr : World} {B : Nat} {Ss : List Sh} {k : Nat} (h : ShsFill wr B Ss k) (hk : Ss.length ≤ k) (hne : Ss ≠ []) (hm : Ss.length ≤ maxLen) : ShsAt B wr (.slice (some ⟨B, 0, none⟩) Ss.length Ss.length) Ss := by
  obtain ⟨f, hr, hall⟩ := h
  refine Or.inr ⟨B, 0, Ss.length, rfl, hne, hm, hr.lt, Nat.le_refl _, fun i hi => ?_⟩
  obtain ⟨hz, fv, h0, h1, hst⟩ := hall i hi (by omega)
  refine ⟨hz, fv, ?_, ?_, hst.mono (by omega)⟩
  · rw [Nat.zero_add, hr.cell (by omega), h0]
  · rw [Nat.zero_add, hr.cell (by omega), h1]
theorem ShsFill.new (w : World) (Ss : List Sh) (z : Array Value) : ShsFill (w.alloc (.cells (madeCells z (Ss.length * 2)) 45)) w.heap.size Ss 0 := by
  refine ⟨fun i => (madeCells z (Ss.length * 2)).getD i default, ?_, fun i _ h => by omega⟩
  have := World.rowIs_alloc w (madeCells z (Ss.length * 2)) 45 (fun i => (madeCells z (Ss.length * 2)).getD i default) (fun i hi => by simp [Array.getD, hi])
  rwa [size_madeCells] at this

end Go.Proofs.YtjkkbkdpoebfaaaGreat
