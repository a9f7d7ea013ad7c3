
import Derived.Test.YtoklnkojacdciaaZ0
namespace Go.Proofs.Ytoklnkojacdciaa
open Go.RowKit Go.Deep

structure Sv where
  nm : ByteArray
  ve : Int
  gn : Bool
  im : Int
  wa : Int
  dn : Int
  ov : Int
  nx : Int
  pr : Int
  ls : Int
  ms : Int
  ld : Int
  cl : Int
structure SvSize (x : Sv) : Prop where
  s0 : x.nm.size ≤ maxLen
def SvSmall (x : Sv) : Prop := x = x
structure SvCells (w : World) (b o : Nat) (x : Sv) : Prop where
  c0 : w.cell? ⟨b, o, none⟩ = some (.string x.nm)
  c1 : w.cell? ⟨b, o + 1, none⟩ = some (.int .i64 x.ve)
  c2 : w.cell? ⟨b, o + 2, none⟩ = some (.bool x.gn)
  c3 : w.cell? ⟨b, o + 3, none⟩ = some (.int .i64 x.im)
  c4 : w.cell? ⟨b, o + 4, none⟩ = some (.int .i64 x.wa)
  c5 : w.cell? ⟨b, o + 5, none⟩ = some (.int .i64 x.dn)
  c6 : w.cell? ⟨b, o + 6, none⟩ = some (.int .i64 x.ov)
  c7 : w.cell? ⟨b, o + 7, none⟩ = some (.int .i64 x.nx)
  c8 : w.cell? ⟨b, o + 8, none⟩ = some (.int .i64 x.pr)
  c9 : w.cell? ⟨b, o + 9, none⟩ = some (.int .i64 x.ls)
  c10 : w.cell? ⟨b, o + 10, none⟩ = some (.int .i64 x.ms)
  c11 : w.cell? ⟨b, o + 11, none⟩ = some (.int .i64 x.ld)
  c12 : w.cell? ⟨b, o + 12, none⟩ = some (.int .i64 x.cl)
theorem SvCells.below {w w' : World} {b o : Nat} {x : Sv} (h : SvCells w b o x ) {m : Nat} (hb : Below m w w') (hlt : b < m) : SvCells w' b o x  := by
  have e : ∀ o, w'.cell? ⟨b, o, none⟩ = w.cell? ⟨b, o, none⟩ := fun o => hb.cell (p := ⟨b, o, none⟩) hlt
  exact ⟨by rw [e]; exact h.c0, by rw [e]; exact h.c1, by rw [e]; exact h.c2, by rw [e]; exact h.c3, by rw [e]; exact h.c4, by rw [e]; exact h.c5, by rw [e]; exact h.c6, by rw [e]; exact h.c7, by rw [e]; exact h.c8, by rw [e]; exact h.c9, by rw [e]; exact h.c10, by rw [e]; exact h.c11, by rw [e]; exact h.c12⟩
theorem SvCells.set {w : World} {b o : Nat} {x : Sv} (h : SvCells w b o x ) {p : Addr} (hp : b ≠ p.block) (u : Value) : SvCells (w.setCell p u) b o x  := by
  have e : ∀ o, (w.setCell p u).cell? ⟨b, o, none⟩ = w.cell? ⟨b, o, none⟩ := fun o => cell_setCell_ne _ _ _ _ hp
  exact ⟨by rw [e]; exact h.c0, by rw [e]; exact h.c1, by rw [e]; exact h.c2, by rw [e]; exact h.c3, by rw [e]; exact h.c4, by rw [e]; exact h.c5, by rw [e]; exact h.c6, by rw [e]; exact h.c7, by rw [e]; exact h.c8, by rw [e]; exact h.c9, by rw [e]; exact h.c10, by rw [e]; exact h.c11, by rw [e]; exact h.c12⟩
def SvsAt (lo : Nat) (w : World) (v : Value) (Xl : List Sv) : Prop :=
  (∃ (a : Option Addr) (cap : Nat), v = .slice a 0 cap ∧ Xl = []) ∨
  ∃ (b off cap : Nat), v = .slice (some ⟨b, off, none⟩) Xl.length cap ∧ Xl ≠ [] ∧ Xl.length ≤ maxLen ∧ b < w.heap.size ∧ lo ≤ b ∧ Xl.length ≤ cap ∧
    ∀ i (h : i < Xl.length), SvSize Xl[i] ∧ SvCells w b (off + i * 13) Xl[i]
theorem SvsAt.below {lo : Nat} {w w' : World} {v : Value} {Xl : List Sv} (h : SvsAt lo w v Xl) (hb : Below w.heap.size w w') : SvsAt lo w' v Xl := by
  rcases h with h | ⟨b, off, cap, h1, h2, h3, h4, h5, h6, h7⟩
  · exact Or.inl h
  · refine Or.inr ⟨b, off, cap, h1, h2, h3, Nat.lt_of_lt_of_le h4 hb.size, h5, h6, fun i hi => ?_⟩
    obtain ⟨hs, hc⟩ := h7 i hi
    exact ⟨hs, hc.below hb h4⟩
theorem SvsAt.mono {lo lo' : Nat} {w : World} {v : Value} {Xl : List Sv} (h : SvsAt lo w v Xl) (hl : lo' ≤ lo) : SvsAt lo' w v Xl := by
  rcases h with h | ⟨b, off, cap, h1, h2, h3, h4, h5, h6, h7⟩
  · exact Or.inl h
  · refine Or.inr ⟨b, off, cap, h1, h2, h3, h4, Nat.le_trans hl h5, h6, fun i hi => ?_⟩
    obtain ⟨hs, hc⟩ := h7 i hi
    exact ⟨hs, hc⟩
theorem SvsAt.set {lo : Nat} {w : World} {v : Value} {Xl : List Sv} (h : SvsAt lo w v Xl) {p : Addr} (hp : p.block < lo) (u : Value) : SvsAt lo (w.setCell p u) v Xl := by
  rcases h with h | ⟨b, off, cap, h1, h2, h3, h4, h5, h6, h7⟩
  · exact Or.inl h
  · refine Or.inr ⟨b, off, cap, h1, h2, h3, by simpa [World.setCell] using h4, h5, h6, fun i hi => ?_⟩
    obtain ⟨hs, hc⟩ := h7 i hi
    exact ⟨hs, hc.set (by omega) u⟩
theorem SvsAt.form {lo : Nat} {w : World} {v : Value} {Xl : List Sv} (h : SvsAt lo w v Xl) : ∃ a cap, v = .slice a Xl.length cap := by
  rcases h with ⟨a, cap, h, rfl⟩ | ⟨b, off, cap, h, _⟩
  · exact ⟨a, cap, h⟩
  · exact ⟨_, cap, h⟩
theorem SvsAt.max {lo : Nat} {w : World} {v : Value} {Xl : List Sv} (h : SvsAt lo w v Xl) : Xl.length ≤ maxLen := by
  rcases h with ⟨a, cap, h, rfl⟩ | ⟨b, off, cap, h, _, h3, _⟩
  · exact Nat.zero_le _
  · exact h3
theorem SvsAt.full {lo : Nat} {w : World} {v : Value} {Xl : List Sv} (h : SvsAt lo w v Xl) (hne : Xl ≠ []) : ∃ (b off cap : Nat), v = .slice (some ⟨b, off, none⟩) Xl.length cap ∧ Xl.length ≤ maxLen ∧ b < w.heap.size ∧ Xl.length ≤ cap ∧
    ∀ i (h : i < Xl.length), SvSize Xl[i] ∧ SvCells w b (off + i * 13) Xl[i] := by
  rcases h with ⟨_, _, _, h⟩ | ⟨b, off, cap, h1, _, h3, h4, _, h6, h7⟩
  · exact absurd h hne
  · exact ⟨b, off, cap, h1, h3, h4, h6, h7⟩
theorem SvsAt.full' {lo : Nat} {w : World} {a : Option Addr} {n cap : Nat} {Xl : List Sv} (h : SvsAt lo w (.slice a n cap) Xl) (hL : 0 < Xl.length) :
    ∃ b off, a = some ⟨b, off, none⟩ ∧ b < w.heap.size ∧ lo ≤ b ∧ ∀ i (h : i < Xl.length), SvSize Xl[i] ∧ SvCells w b (off + i * 13) Xl[i] := by
  rcases h with ⟨a', cap', h, rfl⟩ | ⟨b', off', cap', h1, h2, h3, h4, h5, h6, h7⟩
  · simp at hL
  · injection h1 with e1 e2 e3
    exact ⟨b', off', e1, h4, h5, h7⟩
def SvsSmall (Xl : List Sv) : Prop := Xl.length ≤ 1048576 ∧ ∀ i (h : i < Xl.length), SvSmall Xl[i]
def SzSvs (Xl : List Sv) (left r : Int) : Prop := -1 ≤ r ∧ r ≤ left ∧ (0 ≤ r → SvsSmall Xl)

end Go.Proofs.Ytoklnkojacdciaa
