
import Derived.Test.YtoklnkojacdciaaZ0
namespace Go.Proofs.Ytoklnkojacdciaa
open Go.RowKit Go.Deep

structure Be where
  nm : ByteArray
  dr : Bool
structure BeSize (x : Be) : Prop where
  s0 : x.nm.size ≤ maxLen
def BeSmall (x : Be) : Prop := x = x
structure BeCells (w : World) (b o : Nat) (x : Be) : Prop where
  c0 : w.cell? ⟨b, o, none⟩ = some (.string x.nm)
  c1 : w.cell? ⟨b, o + 1, none⟩ = some (.bool x.dr)
theorem BeCells.below {w w' : World} {b o : Nat} {x : Be} (h : BeCells w b o x ) {m : Nat} (hb : Below m w w') (hlt : b < m) : BeCells w' b o x  := by
  have e : ∀ o, w'.cell? ⟨b, o, none⟩ = w.cell? ⟨b, o, none⟩ := fun o => hb.cell (p := ⟨b, o, none⟩) hlt
  exact ⟨by rw [e]; exact h.c0, by rw [e]; exact h.c1⟩
theorem BeCells.set {w : World} {b o : Nat} {x : Be} (h : BeCells w b o x ) {p : Addr} (hp : b ≠ p.block) (u : Value) : BeCells (w.setCell p u) b o x  := by
  have e : ∀ o, (w.setCell p u).cell? ⟨b, o, none⟩ = w.cell? ⟨b, o, none⟩ := fun o => cell_setCell_ne _ _ _ _ hp
  exact ⟨by rw [e]; exact h.c0, by rw [e]; exact h.c1⟩
def BesAt (lo : Nat) (w : World) (v : Value) (Xl : List Be) : Prop :=
  (∃ (a : Option Addr) (cap : Nat), v = .slice a 0 cap ∧ Xl = []) ∨
  ∃ (b off cap : Nat), v = .slice (some ⟨b, off, none⟩) Xl.length cap ∧ Xl ≠ [] ∧ Xl.length ≤ maxLen ∧ b < w.heap.size ∧ lo ≤ b ∧ Xl.length ≤ cap ∧
    ∀ i (h : i < Xl.length), BeSize Xl[i] ∧ BeCells w b (off + i * 2) Xl[i]
theorem BesAt.below {lo : Nat} {w w' : World} {v : Value} {Xl : List Be} (h : BesAt lo w v Xl) (hb : Below w.heap.size w w') : BesAt lo w' v Xl := by
  rcases h with h | ⟨b, off, cap, h1, h2, h3, h4, h5, h6, h7⟩
  · exact Or.inl h
  · refine Or.inr ⟨b, off, cap, h1, h2, h3, Nat.lt_of_lt_of_le h4 hb.size, h5, h6, fun i hi => ?_⟩
    obtain ⟨hs, hc⟩ := h7 i hi
    exact ⟨hs, hc.below hb h4⟩
theorem BesAt.mono {lo lo' : Nat} {w : World} {v : Value} {Xl : List Be} (h : BesAt lo w v Xl) (hl : lo' ≤ lo) : BesAt lo' w v Xl := by
  rcases h with h | ⟨b, off, cap, h1, h2, h3, h4, h5, h6, h7⟩
  · exact Or.inl h
  · refine Or.inr ⟨b, off, cap, h1, h2, h3, h4, Nat.le_trans hl h5, h6, fun i hi => ?_⟩
    obtain ⟨hs, hc⟩ := h7 i hi
    exact ⟨hs, hc⟩
theorem BesAt.set {lo : Nat} {w : World} {v : Value} {Xl : List Be} (h : BesAt lo w v Xl) {p : Addr} (hp : p.block < lo) (u : Value) : BesAt lo (w.setCell p u) v Xl := by
  rcases h with h | ⟨b, off, cap, h1, h2, h3, h4, h5, h6, h7⟩
  · exact Or.inl h
  · refine Or.inr ⟨b, off, cap, h1, h2, h3, by simpa [World.setCell] using h4, h5, h6, fun i hi => ?_⟩
    obtain ⟨hs, hc⟩ := h7 i hi
    exact ⟨hs, hc.set (by omega) u⟩
theorem BesAt.form {lo : Nat} {w : World} {v : Value} {Xl : List Be} (h : BesAt lo w v Xl) : ∃ a cap, v = .slice a Xl.length cap := by
  rcases h with ⟨a, cap, h, rfl⟩ | ⟨b, off, cap, h, _⟩
  · exact ⟨a, cap, h⟩
  · exact ⟨_, cap, h⟩
theorem BesAt.max {lo : Nat} {w : World} {v : Value} {Xl : List Be} (h : BesAt lo w v Xl) : Xl.length ≤ maxLen := by
  rcases h with ⟨a, cap, h, rfl⟩ | ⟨b, off, cap, h, _, h3, _⟩
  · exact Nat.zero_le _
  · exact h3
theorem BesAt.full {lo : Nat} {w : World} {v : Value} {Xl : List Be} (h : BesAt lo w v Xl) (hne : Xl ≠ []) : ∃ (b off cap : Nat), v = .slice (some ⟨b, off, none⟩) Xl.length cap ∧ Xl.length ≤ maxLen ∧ b < w.heap.size ∧ Xl.length ≤ cap ∧
    ∀ i (h : i < Xl.length), BeSize Xl[i] ∧ BeCells w b (off + i * 2) Xl[i] := by
  rcases h with ⟨_, _, _, h⟩ | ⟨b, off, cap, h1, _, h3, h4, _, h6, h7⟩
  · exact absurd h hne
  · exact ⟨b, off, cap, h1, h3, h4, h6, h7⟩
theorem BesAt.full' {lo : Nat} {w : World} {a : Option Addr} {n cap : Nat} {Xl : List Be} (h : BesAt lo w (.slice a n cap) Xl) (hL : 0 < Xl.length) :
    ∃ b off, a = some ⟨b, off, none⟩ ∧ b < w.heap.size ∧ lo ≤ b ∧ ∀ i (h : i < Xl.length), BeSize Xl[i] ∧ BeCells w b (off + i * 2) Xl[i] := by
  rcases h with ⟨a', cap', h, rfl⟩ | ⟨b', off', cap', h1, h2, h3, h4, h5, h6, h7⟩
  · simp at hL
  · injection h1 with e1 e2 e3
    exact ⟨b', off', e1, h4, h5, h7⟩
def BesSmall (Xl : List Be) : Prop := Xl.length ≤ 1048576 ∧ ∀ i (h : i < Xl.length), BeSmall Xl[i]
def SzBes (Xl : List Be) (left r : Int) : Prop := -1 ≤ r ∧ r ≤ left ∧ (0 ≤ r → BesSmall Xl)

end Go.Proofs.Ytoklnkojacdciaa
