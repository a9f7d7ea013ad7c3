import Derived.Test.YtdeammfdkaomlaaGreatV03
import Derived.Deep.OwnRows
import Derived.Deep.RegionWith
import Derived.WideMake
namespace Go.Proofs.YtdeammfdkaomlaaGreat
open Go.RowKit Go.Deep

theorem ret_str {a b : ByteArray} (h : a = b) : Ending.returned (.string a) = .returned (.string b) := by rw [h]
end Go.Proofs.YtdeammfdkaomlaaGreat
namespace Go.Proofs.YtdeammfdkaomlaaGreat
open Go.RowKit Go.Deep

structure Le where
  tm : ByteArray
  re : ByteArray
  mo : Int
  fr : Int
structure LeSize (x : Le) : Prop where
  s0 : x.tm.size ≤ maxLen
  s1 : x.re.size ≤ maxLen
structure LeCells (w : World) (b o : Nat) (x : Le) : Prop where
  c0 : w.cell? ⟨b, o, none⟩ = some (.string x.tm)
  c1 : w.cell? ⟨b, o + 1, none⟩ = some (.string x.re)
  c2 : w.cell? ⟨b, o + 2, none⟩ = some (.int .i64 x.mo)
  c3 : w.cell? ⟨b, o + 3, none⟩ = some (.int .i64 x.fr)
theorem LeCells.below {w w' : World} {b o : Nat} {x : Le} (h : LeCells w b o x ) {m : Nat} (hb : Below m w w') (hlt : b < m) : LeCells w' b o x  := by
  have e : ∀ o, w'.cell? ⟨b, o, none⟩ = w.cell? ⟨b, o, none⟩ := fun o => hb.cell (p := ⟨b, o, none⟩) hlt
  exact ⟨by rw [e]; exact h.c0, by rw [e]; exact h.c1, by rw [e]; exact h.c2, by rw [e]; exact h.c3⟩
theorem LeCells.set {w : World} {b o : Nat} {x : Le} (h : LeCells w b o x ) {p : Addr} (hp : b ≠ p.block) (u : Value) : LeCells (w.setCell p u) b o x  := by
  have e : ∀ o, (w.setCell p u).cell? ⟨b, o, none⟩ = w.cell? ⟨b, o, none⟩ := fun o => cell_setCell_ne _ _ _ _ hp
  exact ⟨by rw [e]; exact h.c0, by rw [e]; exact h.c1, by rw [e]; exact h.c2, by rw [e]; exact h.c3⟩
def LesAt (lo : Nat) (w : World) (v : Value) (Xl : List Le) : Prop :=
  (∃ (a : Option Addr) (cap : Nat), v = .slice a 0 cap ∧ Xl = []) ∨
  ∃ (b off cap : Nat), v = .slice (some ⟨b, off, none⟩) Xl.length cap ∧ Xl ≠ [] ∧ Xl.length ≤ maxLen ∧ b < w.heap.size ∧ lo ≤ b ∧ Xl.length ≤ cap ∧
    ∀ i (h : i < Xl.length), LeSize Xl[i] ∧ LeCells w b (off + i * 4) Xl[i]
theorem LesAt.below {lo : Nat} {w w' : World} {v : Value} {Xl : List Le} (h : LesAt lo w v Xl) (hb : Below w.heap.size w w') : LesAt lo w' v Xl := by
  rcases h with h | ⟨b, off, cap, h1, h2, h3, h4, h5, h6, h7⟩
  · exact Or.inl h
  · refine Or.inr ⟨b, off, cap, h1, h2, h3, Nat.lt_of_lt_of_le h4 hb.size, h5, h6, fun i hi => ?_⟩
    obtain ⟨hs, hc⟩ := h7 i hi
    exact ⟨hs, hc.below hb h4⟩
theorem LesAt.mono {lo lo' : Nat} {w : World} {v : Value} {Xl : List Le} (h : LesAt lo w v Xl) (hl : lo' ≤ lo) : LesAt lo' w v Xl := by
  rcases h with h | ⟨b, off, cap, h1, h2, h3, h4, h5, h6, h7⟩
  · exact Or.inl h
  · refine Or.inr ⟨b, off, cap, h1, h2, h3, h4, Nat.le_trans hl h5, h6, fun i hi => ?_⟩
    obtain ⟨hs, hc⟩ := h7 i hi
    exact ⟨hs, hc⟩
theorem LesAt.set {lo : Nat} {w : World} {v : Value} {Xl : List Le} (h : LesAt lo w v Xl) {p : Addr} (hp : p.block < lo) (u : Value) : LesAt lo (w.setCell p u) v Xl := by
  rcases h with h | ⟨b, off, cap, h1, h2, h3, h4, h5, h6, h7⟩
  · exact Or.inl h
  · refine Or.inr ⟨b, off, cap, h1, h2, h3, by simpa [World.setCell] using h4, h5, h6, fun i hi => ?_⟩
    obtain ⟨hs, hc⟩ := h7 i hi
    exact ⟨hs, hc.set (by omega) u⟩
theorem LesAt.form {lo : Nat} {w : World} {v : Value} {Xl : List Le} (h : LesAt lo w v Xl) : ∃ a cap, v = .slice a Xl.length cap := by
  rcases h with ⟨a, cap, h, rfl⟩ | ⟨b, off, cap, h, _⟩
  · exact ⟨a, cap, h⟩
  · exact ⟨_, cap, h⟩
theorem LesAt.max {lo : Nat} {w : World} {v : Value} {Xl : List Le} (h : LesAt lo w v Xl) : Xl.length ≤ maxLen := by
  rcases h with ⟨a, cap, h, rfl⟩ | ⟨b, off, cap, h, _, h3, _⟩
  · exact Nat.zero_le _
  · exact h3
theorem LesAt.full {lo : Nat} {w : World} {v : Value} {Xl : List Le} (h : LesAt lo w v Xl) (hne : Xl ≠ []) : ∃ (b off cap : Nat), v = .slice (some ⟨b, off, none⟩) Xl.length cap ∧ Xl.length ≤ maxLen ∧ b < w.heap.size ∧ Xl.length ≤ cap ∧
    ∀ i (h : i < Xl.length), LeSize Xl[i] ∧ LeCells w b (off + i * 4) Xl[i] := by
  rcases h with ⟨_, _, _, h⟩ | ⟨b, off, cap, h1, _, h3, h4, _, h6, h7⟩
  · exact absurd h hne
  · exact ⟨b, off, cap, h1, h3, h4, h6, h7⟩
theorem LesAt.full' {lo : Nat} {w : World} {a : Option Addr} {n cap : Nat} {Xl : List Le} (h : LesAt lo w (.slice a n cap) Xl) (hL : 0 < Xl.length) :
    ∃ b off, a = some ⟨b, off, none⟩ ∧ b < w.heap.size ∧ lo ≤ b ∧ ∀ i (h : i < Xl.length), LeSize Xl[i] ∧ LeCells w b (off + i * 4) Xl[i] := by
  rcases h with ⟨a', cap', h, rfl⟩ | ⟨b', off', cap', h1, h2, h3, h4, h5, h6, h7⟩
  · simp at hL
  · injection h1 with e1 e2 e3
    exact ⟨b', off', e1, h4, h5, h7⟩
end Go.Proofs.YtdeammfdkaomlaaGreat
namespace Go.Proofs.YtdeammfdkaomlaaGreat
open Go.RowKit Go.Deep

structure Pu where
  dr : ByteArray
  tm : ByteArray
  re : ByteArray
  am : Int
  un : Int
structure PuSize (x : Pu) : Prop where
  s0 : x.dr.size ≤ maxLen
  s1 : x.tm.size ≤ maxLen
  s2 : x.re.size ≤ maxLen
structure PuCells (w : World) (b o : Nat) (x : Pu) : Prop where
  c0 : w.cell? ⟨b, o, none⟩ = some (.string x.dr)
  c1 : w.cell? ⟨b, o + 1, none⟩ = some (.string x.tm)
  c2 : w.cell? ⟨b, o + 2, none⟩ = some (.string x.re)
  c3 : w.cell? ⟨b, o + 3, none⟩ = some (.int .i64 x.am)
  c4 : w.cell? ⟨b, o + 4, none⟩ = some (.int .i64 x.un)
theorem PuCells.below {w w' : World} {b o : Nat} {x : Pu} (h : PuCells w b o x ) {m : Nat} (hb : Below m w w') (hlt : b < m) : PuCells w' b o x  := by
  have e : ∀ o, w'.cell? ⟨b, o, none⟩ = w.cell? ⟨b, o, none⟩ := fun o => hb.cell (p := ⟨b, o, none⟩) hlt
  exact ⟨by rw [e]; exact h.c0, by rw [e]; exact h.c1, by rw [e]; exact h.c2, by rw [e]; exact h.c3, by rw [e]; exact h.c4⟩
theorem PuCells.set {w : World} {b o : Nat} {x : Pu} (h : PuCells w b o x ) {p : Addr} (hp : b ≠ p.block) (u : Value) : PuCells (w.setCell p u) b o x  := by
  have e : ∀ o, (w.setCell p u).cell? ⟨b, o, none⟩ = w.cell? ⟨b, o, none⟩ := fun o => cell_setCell_ne _ _ _ _ hp
  exact ⟨by rw [e]; exact h.c0, by rw [e]; exact h.c1, by rw [e]; exact h.c2, by rw [e]; exact h.c3, by rw [e]; exact h.c4⟩
def PusAt (lo : Nat) (w : World) (v : Value) (Xl : List Pu) : Prop :=
  (∃ (a : Option Addr) (cap : Nat), v = .slice a 0 cap ∧ Xl = []) ∨
  ∃ (b off cap : Nat), v = .slice (some ⟨b, off, none⟩) Xl.length cap ∧ Xl ≠ [] ∧ Xl.length ≤ maxLen ∧ b < w.heap.size ∧ lo ≤ b ∧ Xl.length ≤ cap ∧
    ∀ i (h : i < Xl.length), PuSize Xl[i] ∧ PuCells w b (off + i * 5) Xl[i]
theorem PusAt.below {lo : Nat} {w w' : World} {v : Value} {Xl : List Pu} (h : PusAt lo w v Xl) (hb : Below w.heap.size w w') : PusAt lo w' v Xl := by
  rcases h with h | ⟨b, off, cap, h1, h2, h3, h4, h5, h6, h7⟩
  · exact Or.inl h
  · refine Or.inr ⟨b, off, cap, h1, h2, h3, Nat.lt_of_lt_of_le h4 hb.size, h5, h6, fun i hi => ?_⟩
    obtain ⟨hs, hc⟩ := h7 i hi
    exact ⟨hs, hc.below hb h4⟩
theorem PusAt.mono {lo lo' : Nat} {w : World} {v : Value} {Xl : List Pu} (h : PusAt lo w v Xl) (hl : lo' ≤ lo) : PusAt lo' w v Xl := by
  rcases h with h | ⟨b, off, cap, h1, h2, h3, h4, h5, h6, h7⟩
  · exact Or.inl h
  · refine Or.inr ⟨b, off, cap, h1, h2, h3, h4, Nat.le_trans hl h5, h6, fun i hi => ?_⟩
    obtain ⟨hs, hc⟩ := h7 i hi
    exact ⟨hs, hc⟩
theorem PusAt.set {lo : Nat} {w : World} {v : Value} {Xl : List Pu} (h : PusAt lo w v Xl) {p : Addr} (hp : p.block < lo) (u : Value) : PusAt lo (w.setCell p u) v Xl := by
  rcases h with h | ⟨b, off, cap, h1, h2, h3, h4, h5, h6, h7⟩
  · exact Or.inl h
  · refine Or.inr ⟨b, off, cap, h1, h2, h3, by simpa [World.setCell] using h4, h5, h6, fun i hi => ?_⟩
    obtain ⟨hs, hc⟩ := h7 i hi
    exact ⟨hs, hc.set (by omega) u⟩
theorem PusAt.form {lo : Nat} {w : World} {v : Value} {Xl : List Pu} (h : PusAt lo w v Xl) : ∃ a cap, v = .slice a Xl.length cap := by
  rcases h with ⟨a, cap, h, rfl⟩ | ⟨b, off, cap, h, _⟩
  · exact ⟨a, cap, h⟩
  · exact ⟨_, cap, h⟩
theorem PusAt.max {lo : Nat} {w : World} {v : Value} {Xl : List Pu} (h : PusAt lo w v Xl) : Xl.length ≤ maxLen := by
  rcases h with ⟨a, cap, h, rfl⟩ | ⟨b, off, cap, h, _, h3, _⟩
  · exact Nat.zero_le _
  · exact h3
theorem PusAt.full {lo : Nat} {w : World} {v : Value} {Xl : List Pu} (h : PusAt lo w v Xl) (hne : Xl ≠ []) : ∃ (b off cap : Nat), v = .slice (some ⟨b, off, none⟩) Xl.length cap ∧ Xl.length ≤ maxLen ∧ b < w.heap.size ∧ Xl.length ≤ cap ∧
    ∀ i (h : i < Xl.length), PuSize Xl[i] ∧ PuCells w b (off + i * 5) Xl[i] := by
  rcases h with ⟨_, _, _, h⟩ | ⟨b, off, cap, h1, _, h3, h4, _, h6, h7⟩
  · exact absurd h hne
  · exact ⟨b, off, cap, h1, h3, h4, h6, h7⟩
theorem PusAt.full' {lo : Nat} {w : World} {a : Option Addr} {n cap : Nat} {Xl : List Pu} (h : PusAt lo w (.slice a n cap) Xl) (hL : 0 < Xl.length) :
    ∃ b off, a = some ⟨b, off, none⟩ ∧ b < w.heap.size ∧ lo ≤ b ∧ ∀ i (h : i < Xl.length), PuSize Xl[i] ∧ PuCells w b (off + i * 5) Xl[i] := by
  rcases h with ⟨a', cap', h, rfl⟩ | ⟨b', off', cap', h1, h2, h3, h4, h5, h6, h7⟩
  · simp at hL
  · injection h1 with e1 e2 e3
    exact ⟨b', off', e1, h4, h5, h7⟩
end Go.Proofs.YtdeammfdkaomlaaGreat
namespace Go.Proofs.YtdeammfdkaomlaaGreat
open Go.RowKit Go.Deep

theorem FdsAt.len {lo : Nat} {w : World} {v : Value} {Fs : List Fd} (h : FdsAt lo w v Fs) : Fs.length ≤ maxLen := by
  rcases h with ⟨_, _, _, rfl⟩ | ⟨_, _, _, _, _, h, _⟩
  · exact Nat.zero_le _
  · exact h
end Go.Proofs.YtdeammfdkaomlaaGreat
