import Derived.Test.YtgnodlkdjpnmoaaK1
import Derived.Test.YtgnodlkdjpnmoaaS6
namespace Go.Proofs.Ytgnodlkdjpnmoaa
open Go.RowKit Go.Deep

/-- the eleven cells of a field that may be written; the fifth holds its words -/
structure Spots (w : World) (b o : Nat) (wv : Value) : Prop where
  lt : b < w.heap.size
  c0 : (w.cell? ⟨b, o, none⟩).isSome = true
  cj : ∀ j, j < 11 → (w.cell? ⟨b, o + j, none⟩).isSome = true
  four : w.cell? ⟨b, o + 4, none⟩ = some wv
  fr : ∀ i, w.frozen? ⟨b, i, none⟩ = false

def FdsInv (hi b off n : Nat) (w : World) : Prop := ∀ i, i < n → ∃ wv m, Spots w b (off + i * 11) wv ∧ Writ (b + 1) hi w wv m ∧ m ≤ 1048576

/-- kept since w, and all fields stand -/
structure Mk (lo hi b off n : Nat) (w W : World) : Prop where
  kept : Kept lo hi w W
  inv : FdsInv hi b off n W

theorem Mk.setp {lo hi b off n : Nat} {w W : World} (h : Mk lo hi b off n w W) (hl : lo ≤ b) (hh : b < hi) (o : Nat) (ho : (W.cell? ⟨b, o, none⟩).isSome = true) (h4 : ∀ i, o ≠ off + i * 11 + 4) (u : Value) : Mk lo hi b off n w (W.setCell ⟨b, o, none⟩ u) := by
  have hk := Kept.setCell lo hi W ⟨b, o, none⟩ u ⟨hl, hh⟩ ho
  refine ⟨h.kept.trans hk, fun i hi' => ?_⟩
  obtain ⟨wv, m, hs, hw, hm⟩ := h.inv i hi'
  refine ⟨wv, m, ⟨Nat.lt_of_lt_of_le hs.lt hk.touch.size, hk.there _ hs.lt hs.c0, fun j hj => hk.there _ hs.lt (hs.cj j hj), ?_, fun i => (hk.frz _ hs.lt).trans (hs.fr i)⟩, hw.kept hk, hm⟩
  rw [show (W.setCell ⟨b, o, none⟩ u).cell? ⟨b, off + i * 11 + 4, none⟩ = W.cell? ⟨b, off + i * 11 + 4, none⟩ from by apply World.cell?_setCell_other; simp only [ne_eq, Addr.mk.injEq, not_and]; intro _ e; exact absurd e (h4 i)]
  exact hs.four
theorem Mk.set {lo hi b off n : Nat} {w W : World} (h : Mk lo hi b off n w W) (hl : lo ≤ b) (hh : b < hi) (j c : Nat) (hj : j < n) (hc : c < 11) (h4 : c ≠ 4) (u : Value) : Mk lo hi b off n w (W.setCell ⟨b, off + j * 11 + c, none⟩ u) := by
  obtain ⟨wv, m, hs, _, _⟩ := h.inv j hj
  exact h.setp hl hh _ (hs.cj c hc) (fun i => by omega) u
theorem Mk.words {lo hi b off n : Nat} {w W W' : World} (h : Mk lo hi b off n w W) (hl : lo ≤ b) (k : Kept (b + 1) hi W W') : Mk lo hi b off n w W' := by
  refine ⟨h.kept.trans (k.wide (by omega) (Nat.le_refl _)), fun i hi' => ?_⟩
  obtain ⟨wv, m, hs, hw, hm⟩ := h.inv i hi'
  exact ⟨wv, m, ⟨Nat.lt_of_lt_of_le hs.lt k.touch.size, k.there _ hs.lt hs.c0, fun j hj => k.there _ hs.lt (hs.cj j hj), by rw [k.touch.cell (p := ⟨b, _, none⟩) hs.lt (Or.inl (by simp))]; exact hs.four, fun i => (k.frz _ hs.lt).trans (hs.fr i)⟩, hw.kept k, hm⟩
theorem Mk.below {lo hi b off n : Nat} {w W W' : World} (h : Mk lo hi b off n w W) (hl : lo ≤ b) (k : Below W.heap.size W W') : Mk lo hi b off n w W' := h.words hl (Kept.below k)

/-- A []GateField OF n FIELDS THAT MAY BE WRITTEN. -/
def FdsW (lo hi : Nat) (w : World) (v : Value) (n : Nat) : Prop :=
  (∃ (a : Option Addr) (cap : Nat), v = .slice a 0 cap ∧ n = 0) ∨
  ∃ (b off cap : Nat), v = .slice (some ⟨b, off, none⟩) n cap ∧ 0 < n ∧ n ≤ maxLen ∧ lo ≤ b ∧ b < hi ∧ FdsInv hi b off n w

theorem cell_set_ne0 (w : World) (b o o' : Nat) (u : Value) (h : o ≠ o') : (w.setCell ⟨b, o, none⟩ u).cell? ⟨b, o', none⟩ = w.cell? ⟨b, o', none⟩ := by
  rw [cell_set_ne _ _ _ _ (by simp only [ne_eq, Addr.mk.injEq, not_and]; intro _ e; exact absurd e h)]

end Go.Proofs.Ytgnodlkdjpnmoaa

