import Derived.Test.YtjkkbkdpoebfaaaGreatV01
import Derived.Deep.OwnRows
namespace Go.Proofs.YtjkkbkdpoebfaaaGreat
open Go.RowKit Go.Deep

theorem Tryz.info9 : (Tryz.prog.info? 9).map (fun i => (i.zero, i.size, i.bytes)) = some (some (.string ⟨#[]⟩), 1, 16) := by kernel_rfl

/-- the first k of a new row are set -/
def fillF (L : List ByteArray) (k i : Nat) : Value := if i < k then .string (L.getD i ⟨#[]⟩) else .string ⟨#[]⟩
def Filled (wr : World) (B : Nat) (L : List ByteArray) (k : Nat) : Prop := wr.rowIs B 9 L.length (fillF L k)
theorem Filled.step {wr : World} {B : Nat} {L : List ByteArray} {k : Nat} (h : Filled wr B L k) (hk : k < L.length) : Filled (wr.setCell ⟨B, k, none⟩ (.string L[k])) B L (k + 1) := by
  unfold Filled at *
  refine (h.set k (.string L[k])).congr fun i hi => ?_
  unfold fillF
  by_cases e : i = k
  · subst e; simp [hk]
  · by_cases e2 : i < k
    · simp [e, e2, Nat.lt_succ_of_lt e2]
    · have : ¬ i < k + 1 := by omega
      simp [e, e2, this]
theorem Filled.old {wr : World} {B : Nat} {L : List ByteArray} {k : Nat} (h : Filled wr B L k) (hk : k < L.length) : ∃ v, wr.cell? ⟨B, k, none⟩ = some v := ⟨_, World.rowIs.cell h hk⟩
theorem Filled.frozen {wr : World} {B : Nat} {L : List ByteArray} {k : Nat} (h : Filled wr B L k) (i : Nat) : wr.frozen? ⟨B, i, none⟩ = false := World.rowIs.frozen h i
/-- .. AND ITS CELLS LIE FROM BLOCK lo ON. -/
def StrsIn (lo : Nat) (w : World) (v : Value) (L : List ByteArray) : Prop :=
  (∃ (a : Option Addr) (cap : Nat), v = .slice a 0 cap ∧ L = []) ∨
  ∃ (b off cap : Nat), v = .slice (some ⟨b, off, none⟩) L.length cap ∧ L ≠ [] ∧ L.length ≤ maxLen ∧ b < w.heap.size ∧
    (∀ i (h : i < L.length), w.cell? ⟨b, off + i, none⟩ = some (.string L[i])) ∧ (∀ s ∈ L, s.size ≤ maxLen) ∧ lo ≤ b
theorem StrsIn.at {lo : Nat} {w : World} {v : Value} {L : List ByteArray} (h : StrsIn lo w v L) : StrsAt w v L := by
  rcases h with h | ⟨b, off, cap, h1, h2, h3, h4, h5, h6, _⟩
  · exact Or.inl h
  · exact Or.inr ⟨b, off, cap, h1, h2, h3, h4, h5, h6⟩
theorem StrsIn.mono {lo lo' : Nat} {w : World} {v : Value} {L : List ByteArray} (h : StrsIn lo w v L) (hl : lo' ≤ lo) : StrsIn lo' w v L := by
  rcases h with h | ⟨b, off, cap, h1, h2, h3, h4, h5, h6, h7⟩
  · exact Or.inl h
  · exact Or.inr ⟨b, off, cap, h1, h2, h3, h4, h5, h6, Nat.le_trans hl h7⟩
theorem StrsIn.below {lo : Nat} {w w' : World} {v : Value} {L : List ByteArray} (h : StrsIn lo w v L) (hb : Below w.heap.size w w') : StrsIn lo w' v L := by
  rcases h with h | ⟨b, off, cap, h1, h2, h3, h4, h5, h6, h7⟩
  · exact Or.inl h
  · exact Or.inr ⟨b, off, cap, h1, h2, h3, Nat.lt_of_lt_of_le h4 hb.size, fun i hi => by rw [hb.cell (p := ⟨b, off + i, none⟩) h4]; exact h5 i hi, h6, h7⟩
theorem cell_setCell_ne (w : World) (p q : Addr) (u : Value) (h : q.block ≠ p.block) : (w.setCell p u).cell? q = w.cell? q :=
  World.cell?_of_block (w := w) (Below.heap_setCell w p u q.block h)
theorem StrsIn.setCell {lo : Nat} {w : World} {v : Value} {L : List ByteArray} (h : StrsIn lo w v L) {p : Addr} (hp : p.block < lo) (u : Value) : StrsIn lo (w.setCell p u) v L := by
  rcases h with h | ⟨b, off, cap, h1, h2, h3, h4, h5, h6, h7⟩
  · exact Or.inl h
  · exact Or.inr ⟨b, off, cap, h1, h2, h3, by simpa [World.setCell] using h4, fun i hi => by rw [cell_setCell_ne _ _ _ _ (by show b ≠ p.block; omega)]; exact h5 i hi, h6, h7⟩
theorem StrsIn.form {lo : Nat} {w : World} {v : Value} {L : List ByteArray} (h : StrsIn lo w v L) : ∃ a n cap, v = .slice a n cap := by
  rcases h with ⟨a, cap, h, _⟩ | ⟨b, off, cap, h, _⟩
  · exact ⟨a, _, cap, h⟩
  · exact ⟨_, _, cap, h⟩
theorem StrsAt.form {w : World} {v : Value} {L : List ByteArray} (h : StrsAt w v L) : ∃ a n cap, v = .slice a n cap := by
  rcases h with ⟨a, cap, h, _⟩ | ⟨b, off, cap, h, _⟩
  · exact ⟨a, _, cap, h⟩
  · exact ⟨_, _, cap, h⟩
theorem Filled.done {wr : World} {B : Nat} {L : List ByteArray} {k : Nat} (h : Filled wr B L k) (hk : L.length ≤ k) (hne : L ≠ []) (hm : L.length ≤ maxLen) (hs : ∀ s ∈ L, s.size ≤ maxLen) : StrsIn B wr (.slice (some ⟨B, 0, none⟩) L.length L.length) L := by
  refine Or.inr ⟨B, 0, L.length, rfl, hne, hm, World.rowIs.lt h, fun i hi => ?_, hs, Nat.le_refl _⟩
  rw [Nat.zero_add, World.rowIs.cell h hi]
  unfold fillF
  rw [if_pos (by omega), List.getD_eq_getElem?_getD, List.getElem?_eq_getElem hi]; rfl

end Go.Proofs.YtjkkbkdpoebfaaaGreat
namespace Go.Proofs.YtjkkbkdpoebfaaaGreat
open Go.RowKit Go.Deep

theorem bcell {W w1 : World} (hb : Below W.heap.size W w1) : (∀ b o, b < W.heap.size → w1.cell? ⟨b, o, none⟩ = W.cell? ⟨b, o, none⟩) ∧ (∀ b o, b < W.heap.size → w1.frozen? ⟨b, o, none⟩ = W.frozen? ⟨b, o, none⟩) :=
  ⟨fun b o h => hb.cell (p := ⟨b, o, none⟩) h, fun b o h => hb.frozen (p := ⟨b, o, none⟩) h⟩

end Go.Proofs.YtjkkbkdpoebfaaaGreat
