import Derived.Test.YtobijdenhbpdfaaDoorT1
namespace Go.Proofs.YtobijdenhbpdfaaDoor
open Go.RowKit Go.Deep

/-- a rule -/
structure Ru where
  vb : List Int
  kd : ByteArray
  tm : ByteArray
  pf : ByteArray
/-- A []int THAT HOLDS L; its cells lie from block lo on. -/
def IntsIn (lo : Nat) (w : World) (v : Value) (L : List Int) : Prop :=
  (∃ (a : Option Addr) (cap : Nat), v = .slice a 0 cap ∧ L = []) ∨
  ∃ (b off cap : Nat), v = .slice (some ⟨b, off, none⟩) L.length cap ∧ L ≠ [] ∧ L.length ≤ maxLen ∧ b < w.heap.size ∧ lo ≤ b ∧
    ∀ i (h : i < L.length), w.cell? ⟨b, off + i, none⟩ = some (.int .i64 L[i])
theorem IntsIn.below {lo : Nat} {w w' : World} {v : Value} {L : List Int} (h : IntsIn lo w v L) (hb : Below w.heap.size w w') : IntsIn lo w' v L := by
  rcases h with h | ⟨b, off, cap, h1, h2, h3, h4, h5, h6⟩
  · exact Or.inl h
  · exact Or.inr ⟨b, off, cap, h1, h2, h3, Nat.lt_of_lt_of_le h4 hb.size, h5, fun i hi => by rw [hb.cell (p := ⟨b, _, none⟩) h4]; exact h6 i hi⟩
theorem IntsIn.mono {lo lo' : Nat} {w : World} {v : Value} {L : List Int} (h : IntsIn lo w v L) (hl : lo' ≤ lo) : IntsIn lo' w v L := by
  rcases h with h | ⟨b, off, cap, h1, h2, h3, h4, h5, h6⟩
  · exact Or.inl h
  · exact Or.inr ⟨b, off, cap, h1, h2, h3, h4, Nat.le_trans hl h5, h6⟩
theorem IntsIn.form {lo : Nat} {w : World} {v : Value} {L : List Int} (h : IntsIn lo w v L) : ∃ a cap, v = .slice a L.length cap := by
  rcases h with ⟨a, cap, h, rfl⟩ | ⟨b, off, cap, h, _⟩
  · exact ⟨a, cap, h⟩
  · exact ⟨_, cap, h⟩
theorem IntsIn.max {lo : Nat} {w : World} {v : Value} {L : List Int} (h : IntsIn lo w v L) : L.length ≤ maxLen := by
  rcases h with ⟨a, cap, h, rfl⟩ | ⟨b, off, cap, h, _, h3, _⟩
  · exact Nat.zero_le _
  · exact h3
theorem IntsIn.full {lo : Nat} {w : World} {v : Value} {L : List Int} (h : IntsIn lo w v L) (hne : L ≠ []) : ∃ (b off cap : Nat), v = .slice (some ⟨b, off, none⟩) L.length cap ∧ L.length ≤ maxLen ∧ b < w.heap.size ∧
    ∀ i (h : i < L.length), w.cell? ⟨b, off + i, none⟩ = some (.int .i64 L[i]) := by
  rcases h with ⟨_, _, _, h⟩ | ⟨b, off, cap, h1, _, h3, h4, _, h6⟩
  · exact absurd h hne
  · exact ⟨b, off, cap, h1, h3, h4, h6⟩
theorem IntsIn.full' {lo : Nat} {w : World} {a : Option Addr} {n cap : Nat} {L : List Int} (h : IntsIn lo w (.slice a n cap) L) (hL : 0 < L.length) :
    ∃ b off, a = some ⟨b, off, none⟩ ∧ b < w.heap.size ∧ ∀ i (h : i < L.length), w.cell? ⟨b, off + i, none⟩ = some (.int .i64 L[i]) := by
  rcases h with ⟨a', cap', h, rfl⟩ | ⟨b', off', cap', h1, h2, h3, h4, h5, h6⟩
  · simp at hL
  · injection h1 with e1 e2 e3
    exact ⟨b', off', e1, h4, h6⟩
theorem IntsIn.setCell {lo : Nat} {w : World} {v : Value} {L : List Int} (h : IntsIn lo w v L) {p : Addr} (hp : p.block < lo) (u : Value) : IntsIn lo (w.setCell p u) v L := by
  rcases h with h | ⟨b, off, cap, h1, h2, h3, h4, h5, h6⟩
  · exact Or.inl h
  · refine Or.inr ⟨b, off, cap, h1, h2, h3, by simpa [World.setCell] using h4, h5, fun i hi => ?_⟩
    rw [cell_setCell_ne _ _ _ _ (by show b ≠ p.block; omega)]
    exact h6 i hi

theorem Tryd.info3 : (Tryd.prog.info? 3).map (fun i => (i.zero, i.size, i.bytes)) = some (some (.int .i64 0), 1, 8) := by kernel_rfl
def fillI (L : List Int) (k i : Nat) : Value := if i < k then .int .i64 (L.getD i 0) else .int .i64 0
def FilledI (wr : World) (B : Nat) (L : List Int) (k : Nat) : Prop := wr.rowIs B 3 L.length (fillI L k)
theorem FilledI.step {wr : World} {B : Nat} {L : List Int} {k : Nat} (h : FilledI wr B L k) (hk : k < L.length) : FilledI (wr.setCell ⟨B, k, none⟩ (.int .i64 L[k])) B L (k + 1) := by
  unfold FilledI at *
  refine (h.set k (.int .i64 L[k])).congr fun i hi => ?_
  unfold fillI
  by_cases e : i = k
  · subst e; simp [hk]
  · by_cases e2 : i < k
    · simp [e, e2, Nat.lt_succ_of_lt e2]
    · have : ¬ i < k + 1 := by omega
      simp [e, e2, this]
theorem FilledI.done {wr : World} {B : Nat} {L : List Int} {k : Nat} (h : FilledI wr B L k) (hk : L.length ≤ k) (hne : L ≠ []) (hm : L.length ≤ maxLen) : IntsIn B wr (.slice (some ⟨B, 0, none⟩) L.length L.length) L := by
  refine Or.inr ⟨B, 0, L.length, rfl, hne, hm, World.rowIs.lt h, Nat.le_refl _, fun i hi => ?_⟩
  rw [Nat.zero_add, World.rowIs.cell h hi]
  unfold fillI
  rw [if_pos (by omega), List.getD_eq_getElem?_getD, List.getElem?_eq_getElem hi]; rfl

structure RuSize (r : Ru) : Prop where
  s1 : r.kd.size ≤ maxLen
  s2 : r.tm.size ≤ maxLen
  s3 : r.pf.size ≤ maxLen
/-- the copy of a slice's header and three texts: a rule as a value -/
abbrev Ru.val (r : Ru) (vv : Value) : Value := .agg #[vv, .string r.kd, .string r.tm, .string r.pf]

end Go.Proofs.YtobijdenhbpdfaaDoor

