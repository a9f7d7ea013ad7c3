import Derived.Test.YtlgakpnjicdblabN4
namespace Go.Proofs.Ytlgakpnjicdblab
open Go.RowKit Go.Deep

/-- A []string THAT THE CALL MADE ITSELF: its block lies from base on, with room behind. -/
structure OwnS (base : Nat) (W : World) (v : Value) (R : List ByteArray) : Prop where
  row : W.ownsRow base 9 1 v R.length (R.map Value.string)
  sz : ∀ s ∈ R, s.size ≤ maxLen
theorem OwnS.form {base : Nat} {W : World} {v : Value} {R : List ByteArray} (h : OwnS base W v R) : ∃ a cap, v = .slice a R.length cap := by
  rcases h.row.2 with ⟨hv, hn⟩ | ⟨g, cap, cur, hv, _⟩
  · rw [hn]; exact ⟨_, _, hv⟩
  · exact ⟨_, _, hv⟩
theorem OwnS.below {base : Nat} {W W' : World} {v : Value} {R : List ByteArray} (h : OwnS base W v R) (hb : Below W.heap.size W W') : OwnS base W' v R := by
  refine ⟨⟨h.row.1, ?_⟩, h.sz⟩
  rcases h.row.2 with hv | ⟨g, cap, cur, hv, h1, h2, h3⟩
  · exact Or.inl hv
  · have hg : g < W.heap.size := by
      rcases Nat.lt_or_ge g W.heap.size with h | h
      · exact h
      · rw [Array.getElem?_eq_none h] at h2; cases h2
    exact Or.inr ⟨g, cap, cur, hv, h1, by rw [hb.block g hg]; exact h2, h3⟩
theorem OwnS.strs {base : Nat} {W : World} {v : Value} {R : List ByteArray} (h : OwnS base W v R) : StrsAt W v R := by
  rcases h.row.2 with ⟨hv, hn⟩ | ⟨g, cap, cur, hv, h1, h2, h3, h4, h5, h6⟩
  · exact Or.inl ⟨none, 0, hv, List.length_eq_zero_iff.1 hn⟩
  · by_cases hR : R = []
    · subst hR; exact Or.inl ⟨_, _, hv, rfl⟩
    · have hg : g < W.heap.size := by
        rcases Nat.lt_or_ge g W.heap.size with h | h
        · exact h
        · rw [Array.getElem?_eq_none h] at h2; cases h2
      refine Or.inr ⟨g, 0, cap, hv, hR, Nat.le_trans h3 h4, hg, fun i hi => ?_, h.sz⟩
      rw [Nat.zero_add, cell_of_row W g i cur 9 (0, 0) h2]
      have : (cur.toList.take (R.length * 1))[i]? = (R.map Value.string)[i]? := by rw [h6]
      rw [List.getElem?_take_of_lt (by omega)] at this
      simpa [hi] using this
theorem OwnS.mono {base base' : Nat} {W : World} {v : Value} {R : List ByteArray} (h : OwnS base W v R) (hb : base' ≤ base) : OwnS base' W v R := by
  refine ⟨⟨h.row.1, ?_⟩, h.sz⟩
  rcases h.row.2 with hv | ⟨g, cap, cur, hv, h1, h2⟩
  · exact Or.inl hv
  · exact Or.inr ⟨g, cap, cur, hv, Nat.le_trans hb h1, h2⟩
theorem OwnS.nil (base : Nat) (W : World) : OwnS base W (.slice none 0 0) [] := ⟨World.ownsRow_nil _ _ _ _, fun s h => by simp at h⟩
theorem OwnS.made {base : Nat} (W : World) (g : Nat) (hg : W.heap.size = g) (hb : base ≤ g) : OwnS base (W.alloc (.cells #[] 9)) (.slice (some ⟨g, 0, none⟩) 0 0) [] := by
  subst hg
  exact ⟨World.ownsRow_made (base := base) (e := 9) (size := 1) W #[] 0 hb (Nat.zero_le _) (by simp), fun s h => by simp at h⟩
theorem OwnS.grown {base : Nat} {W w' : World} {v : Value} {R : List ByteArray} (h : OwnS base W v R) (hg : W.grownBy w' v.ownBlock) (hb : base ≤ W.heap.size) : Below base W w' := by
  refine ⟨hg.os, hg.tape, hg.output, hg.size, fun k hk => hg.block k (by omega) ?_⟩
  rcases h.row.2 with ⟨hv, _⟩ | ⟨g, cap, cur, hv, h1, _⟩
  · rw [hv]; intro e; cases e
  · rw [hv]; intro e
    have : k = g := by simpa [Value.ownBlock] using e
    omega
theorem OwnS.snoc {base : Nat} {W w' : World} {v v' : Value} {R : List ByteArray} {s : ByteArray} (h : OwnS base W v R) (hown : w'.ownsRow base 9 1 v' (R.length + 1) (R.map Value.string ++ [.string s])) (hs : s.size ≤ maxLen) : OwnS base w' v' (R ++ [s]) := by
  refine ⟨by rw [List.length_append, List.map_append]; exact hown, fun t ht => ?_⟩
  rcases List.mem_append.1 ht with h1 | h1
  · exact h.sz t h1
  · rw [List.mem_singleton.1 h1]; exact hs
theorem cell_new1 (X : World) (g : Nat) (u : Value) (t : TypeId) (hg : X.heap.size = g) : ∀ j x, [u][j]? = some x → (X.alloc (.cells #[u] t)).cell? ((⟨g, 0, none⟩ : Addr).add j) = some x := by
  subst hg
  intro j x hj
  rw [Go.WideShapes.add_plain, Nat.zero_add]
  cases j with
  | zero => simp at hj; subst hj; simp
  | succ j => simp at hj
theorem one_oneCell (s : ByteArray) : ∀ u ∈ [Value.string s], u.oneCell' = true := fun u hu => by rw [List.mem_singleton.1 hu]; rfl

/-- none of the first k can be put behind the row -/
def NoneYet (Fs : List Fd) (rd : ByteArray → List ByteArray) (R : List ByteArray) (k : Nat) : Prop := ∀ i (h : i < Fs.length), i < k → Fs[i].nm ∈ R ∨ ¬ ∀ r ∈ rd Fs[i].nm, r ∈ R
theorem NoneYet.stuck {Fs : List Fd} {rd : ByteArray → List ByteArray} {R : List ByteArray} {k : Nat} (h : NoneYet Fs rd R k) (hk : Fs.length ≤ k) : Stuck (namesF Fs) rd R := by
  intro x hx hn
  obtain ⟨i, hi, rfl⟩ := mem_namesF.1 hx
  rcases h i hi (by omega) with h1 | h1
  · exact absurd h1 hn
  · exact h1
theorem NoneYet.succ {Fs : List Fd} {rd : ByteArray → List ByteArray} {R : List ByteArray} {k : Nat} (h : NoneYet Fs rd R k) (hk : k < Fs.length) (hx : Fs[k].nm ∈ R ∨ ¬ ∀ r ∈ rd Fs[k].nm, r ∈ R) : NoneYet Fs rd R (k + 1) := by
  intro i hi hik
  by_cases e : i = k
  · subst e; exact hx
  · exact h i hi (by omega)
theorem names_len (Fs : List Fd) : (namesF Fs).length = Fs.length := by simp [namesF]
theorem good_len {Fs : List Fd} {rd : ByteArray → List ByteArray} {R : List ByteArray} (h : Good (namesF Fs) rd R) : R.length ≤ Fs.length := by
  have := List.Nodup.length_le_of_subset h.nodup h.sub
  rwa [names_len] at this

/-- WHAT l3Row GIVES -/
def RowOf (x : Sh) (Ms : List Md) (R : List ByteArray) : Prop :=
  Good (namesF x.fields) (readsOf x.kind Ms) R ∧ R.length ≤ x.fields.length ∧ (R.length = x.fields.length ↔ shapeRowB Ms x = true)
theorem RowOf.mk' {x : Sh} {Ms : List Md} {R : List ByteArray} {n : Nat} (hg : Good (namesF x.fields) (readsOf x.kind Ms) R) (hn : x.fields.length ≤ n) (h : R.length = n ∨ Stuck (namesF x.fields) (readsOf x.kind Ms) R) : RowOf x Ms R := by
  have hl := good_len hg
  refine ⟨hg, hl, fun e => rowB_yes hg (by rw [names_len]; omega), fun hb => ?_⟩
  rcases h with h | h
  · omega
  · rcases Nat.lt_or_ge R.length x.fields.length with hlt | hge
    · unfold shapeRowB at hb
      rw [rowB_no h (by rw [names_len]; exact hlt)] at hb; cases hb
    · omega
end Go.Proofs.Ytlgakpnjicdblab
