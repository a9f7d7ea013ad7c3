
import Derived.Test.YtoklnkojacdciaaZ0
namespace Go.Proofs.Ytoklnkojacdciaa
open Go.RowKit Go.Deep

structure Cp where
  se : ByteArray
  nu : Int
  ve : Int
  im : Int
  st : Int
  en : Bool
  be : ByteArray
structure CpSize (x : Cp) : Prop where
  s0 : x.se.size ≤ maxLen
  s1 : x.be.size ≤ maxLen
def CpSmall (x : Cp) : Prop := x = x
structure CpCells (w : World) (b o : Nat) (x : Cp) : Prop where
  c0 : w.cell? ⟨b, o, none⟩ = some (.string x.se)
  c1 : w.cell? ⟨b, o + 1, none⟩ = some (.int .i64 x.nu)
  c2 : w.cell? ⟨b, o + 2, none⟩ = some (.int .i64 x.ve)
  c3 : w.cell? ⟨b, o + 3, none⟩ = some (.int .i64 x.im)
  c4 : w.cell? ⟨b, o + 4, none⟩ = some (.int .i64 x.st)
  c5 : w.cell? ⟨b, o + 5, none⟩ = some (.bool x.en)
  c6 : w.cell? ⟨b, o + 6, none⟩ = some (.string x.be)
theorem CpCells.below {w w' : World} {b o : Nat} {x : Cp} (h : CpCells w b o x ) {m : Nat} (hb : Below m w w') (hlt : b < m) : CpCells w' b o x  := by
  have e : ∀ o, w'.cell? ⟨b, o, none⟩ = w.cell? ⟨b, o, none⟩ := fun o => hb.cell (p := ⟨b, o, none⟩) hlt
  exact ⟨by rw [e]; exact h.c0, by rw [e]; exact h.c1, by rw [e]; exact h.c2, by rw [e]; exact h.c3, by rw [e]; exact h.c4, by rw [e]; exact h.c5, by rw [e]; exact h.c6⟩
theorem CpCells.set {w : World} {b o : Nat} {x : Cp} (h : CpCells w b o x ) {p : Addr} (hp : b ≠ p.block) (u : Value) : CpCells (w.setCell p u) b o x  := by
  have e : ∀ o, (w.setCell p u).cell? ⟨b, o, none⟩ = w.cell? ⟨b, o, none⟩ := fun o => cell_setCell_ne _ _ _ _ hp
  exact ⟨by rw [e]; exact h.c0, by rw [e]; exact h.c1, by rw [e]; exact h.c2, by rw [e]; exact h.c3, by rw [e]; exact h.c4, by rw [e]; exact h.c5, by rw [e]; exact h.c6⟩
def CpsAt (lo : Nat) (w : World) (v : Value) (Xl : List Cp) : Prop :=
  (∃ (a : Option Addr) (cap : Nat), v = .slice a 0 cap ∧ Xl = []) ∨
  ∃ (b off cap : Nat), v = .slice (some ⟨b, off, none⟩) Xl.length cap ∧ Xl ≠ [] ∧ Xl.length ≤ maxLen ∧ b < w.heap.size ∧ lo ≤ b ∧ Xl.length ≤ cap ∧
    ∀ i (h : i < Xl.length), CpSize Xl[i] ∧ CpCells w b (off + i * 7) Xl[i]
theorem CpsAt.below {lo : Nat} {w w' : World} {v : Value} {Xl : List Cp} (h : CpsAt lo w v Xl) (hb : Below w.heap.size w w') : CpsAt lo w' v Xl := by
  rcases h with h | ⟨b, off, cap, h1, h2, h3, h4, h5, h6, h7⟩
  · exact Or.inl h
  · refine Or.inr ⟨b, off, cap, h1, h2, h3, Nat.lt_of_lt_of_le h4 hb.size, h5, h6, fun i hi => ?_⟩
    obtain ⟨hs, hc⟩ := h7 i hi
    exact ⟨hs, hc.below hb h4⟩
theorem CpsAt.mono {lo lo' : Nat} {w : World} {v : Value} {Xl : List Cp} (h : CpsAt lo w v Xl) (hl : lo' ≤ lo) : CpsAt lo' w v Xl := by
  rcases h with h | ⟨b, off, cap, h1, h2, h3, h4, h5, h6, h7⟩
  · exact Or.inl h
  · refine Or.inr ⟨b, off, cap, h1, h2, h3, h4, Nat.le_trans hl h5, h6, fun i hi => ?_⟩
    obtain ⟨hs, hc⟩ := h7 i hi
    exact ⟨hs, hc⟩
theorem CpsAt.set {lo : Nat} {w : World} {v : Value} {Xl : List Cp} (h : CpsAt lo w v Xl) {p : Addr} (hp : p.block < lo) (u : Value) : CpsAt lo (w.setCell p u) v Xl := by
  rcases h with h | ⟨b, off, cap, h1, h2, h3, h4, h5, h6, h7⟩
  · exact Or.inl h
  · refine Or.inr ⟨b, off, cap, h1, h2, h3, by simpa [World.setCell] using h4, h5, h6, fun i hi => ?_⟩
    obtain ⟨hs, hc⟩ := h7 i hi
    exact ⟨hs, hc.set (by omega) u⟩
theorem CpsAt.form {lo : Nat} {w : World} {v : Value} {Xl : List Cp} (h : CpsAt lo w v Xl) : ∃ a cap, v = .slice a Xl.length cap := by
  rcases h with ⟨a, cap, h, rfl⟩ | ⟨b, off, cap, h, _⟩
  · exact ⟨a, cap, h⟩
  · exact ⟨_, cap, h⟩
theorem CpsAt.max {lo : Nat} {w : World} {v : Value} {Xl : List Cp} (h : CpsAt lo w v Xl) : Xl.length ≤ maxLen := by
  rcases h with ⟨a, cap, h, rfl⟩ | ⟨b, off, cap, h, _, h3, _⟩
  · exact Nat.zero_le _
  · exact h3
theorem CpsAt.full {lo : Nat} {w : World} {v : Value} {Xl : List Cp} (h : CpsAt lo w v Xl) (hne : Xl ≠ []) : ∃ (b off cap : Nat), v = .slice (some ⟨b, off, none⟩) Xl.length cap ∧ Xl.length ≤ maxLen ∧ b < w.heap.size ∧ Xl.length ≤ cap ∧
    ∀ i (h : i < Xl.length), CpSize Xl[i] ∧ CpCells w b (off + i * 7) Xl[i] := by
  rcases h with ⟨_, _, _, h⟩ | ⟨b, off, cap, h1, _, h3, h4, _, h6, h7⟩
  · exact absurd h hne
  · exact ⟨b, off, cap, h1, h3, h4, h6, h7⟩
theorem CpsAt.full' {lo : Nat} {w : World} {a : Option Addr} {n cap : Nat} {Xl : List Cp} (h : CpsAt lo w (.slice a n cap) Xl) (hL : 0 < Xl.length) :
    ∃ b off, a = some ⟨b, off, none⟩ ∧ b < w.heap.size ∧ lo ≤ b ∧ ∀ i (h : i < Xl.length), CpSize Xl[i] ∧ CpCells w b (off + i * 7) Xl[i] := by
  rcases h with ⟨a', cap', h, rfl⟩ | ⟨b', off', cap', h1, h2, h3, h4, h5, h6, h7⟩
  · simp at hL
  · injection h1 with e1 e2 e3
    exact ⟨b', off', e1, h4, h5, h7⟩
def CpsSmall (Xl : List Cp) : Prop := Xl.length ≤ 1048576 ∧ ∀ i (h : i < Xl.length), CpSmall Xl[i]
def SzCps (Xl : List Cp) (left r : Int) : Prop := -1 ≤ r ∧ r ≤ left ∧ (0 ≤ r → CpsSmall Xl)

end Go.Proofs.Ytoklnkojacdciaa
