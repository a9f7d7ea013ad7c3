import Derived.Test.YtoklnkojacdciaaG00
namespace Go.Proofs.Ytoklnkojacdciaa
open Go.RowKit Go.Deep

structure Sv where
  nm : ByteArray
  ve : Int
  gn : Bool
  im : Int
  wa : Int
  dn : Int
  ov : Int
  nx : Int
  pr : Int
  ls : Int
  ms : Int
  ld : Int
  cl : Int
structure SvSize (x : Sv) : Prop where
  s0 : x.nm.size ≤ maxLen
def SvSmall (x : Sv) : Prop := x = x
structure SvCells (w : World) (b o : Nat) (x : Sv) : Prop where
  c0 : w.cell? ⟨b, o, none⟩ = some (.string x.nm)
  c1 : w.cell? ⟨b, o + 1, none⟩ = some (.int .i64 x.ve)
  c2 : w.cell? ⟨b, o + 2, none⟩ = some (.bool x.gn)
  c3 : w.cell? ⟨b, o + 3, none⟩ = some (.int .i64 x.im)
  c4 : w.cell? ⟨b, o + 4, none⟩ = some (.int .i64 x.wa)
  c5 : w.cell? ⟨b, o + 5, none⟩ = some (.int .i64 x.dn)
  c6 : w.cell? ⟨b, o + 6, none⟩ = some (.int .i64 x.ov)
  c7 : w.cell? ⟨b, o + 7, none⟩ = some (.int .i64 x.nx)
  c8 : w.cell? ⟨b, o + 8, none⟩ = some (.int .i64 x.pr)
  c9 : w.cell? ⟨b, o + 9, none⟩ = some (.int .i64 x.ls)
  c10 : w.cell? ⟨b, o + 10, none⟩ = some (.int .i64 x.ms)
  c11 : w.cell? ⟨b, o + 11, none⟩ = some (.int .i64 x.ld)
  c12 : w.cell? ⟨b, o + 12, none⟩ = some (.int .i64 x.cl)
theorem SvCells.below {w w' : World} {b o : Nat} {x : Sv} (h : SvCells w b o x ) {m : Nat} (hb : Below m w w') (hlt : b < m) : SvCells w' b o x  := by
  have e : ∀ o, w'.cell? ⟨b, o, none⟩ = w.cell? ⟨b, o, none⟩ := fun o => hb.cell (p := ⟨b, o, none⟩) hlt
  exact ⟨by rw [e]; exact h.c0, by rw [e]; exact h.c1, by rw [e]; exact h.c2, by rw [e]; exact h.c3, by rw [e]; exact h.c4, by rw [e]; exact h.c5, by rw [e]; exact h.c6, by rw [e]; exact h.c7, by rw [e]; exact h.c8, by rw [e]; exact h.c9, by rw [e]; exact h.c10, by rw [e]; exact h.c11, by rw [e]; exact h.c12⟩
theorem SvCells.set {w : World} {b o : Nat} {x : Sv} (h : SvCells w b o x ) {p : Addr} (hp : b ≠ p.block) (u : Value) : SvCells (w.setCell p u) b o x  := by
  have e : ∀ o, (w.setCell p u).cell? ⟨b, o, none⟩ = w.cell? ⟨b, o, none⟩ := fun o => cell_setCell_ne _ _ _ _ hp
  exact ⟨by rw [e]; exact h.c0, by rw [e]; exact h.c1, by rw [e]; exact h.c2, by rw [e]; exact h.c3, by rw [e]; exact h.c4, by rw [e]; exact h.c5, by rw [e]; exact h.c6, by rw [e]; exact h.c7, by rw [e]; exact h.c8, by rw [e]; exact h.c9, by rw [e]; exact h.c10, by rw [e]; exact h.c11, by rw [e]; exact h.c12⟩
def SvsAt (lo : Nat) (w : World) (v : Value) (Xl : List Sv) : Prop :=
  (∃ (a : Option Addr) (cap : Nat), v = .slice a 0 cap ∧ Xl = []) ∨
  ∃ (b off cap : Nat), v = .slice (some ⟨b, off, none⟩) Xl.length cap ∧ Xl ≠ [] ∧ Xl.length ≤ maxLen ∧ b < w.heap.size ∧ lo ≤ b ∧ Xl.length ≤ cap ∧
    ∀ i (h : i < Xl.length), SvSize Xl[i] ∧ SvCells w b (off + i * 13) Xl[i]
theorem SvsAt.below {lo : Nat} {w w' : World} {v : Value} {Xl : List Sv} (h : SvsAt lo w v Xl) (hb : Below w.heap.size w w') : SvsAt lo w' v Xl := by
  rcases h with h | ⟨b, off, cap, h1, h2, h3, h4, h5, h6, h7⟩
  · exact Or.inl h
  · refine Or.inr ⟨b, off, cap, h1, h2, h3, Nat.lt_of_lt_of_le h4 hb.size, h5, h6, fun i hi => ?_⟩
    obtain ⟨hs, hc⟩ := h7 i hi
    exact ⟨hs, hc.below hb h4⟩
theorem SvsAt.mono {lo lo' : Nat} {w : World} {v : Value} {Xl : List Sv} (h : SvsAt lo w v Xl) (hl : lo' ≤ lo) : SvsAt lo' w v Xl := by
  rcases h with h | ⟨b, off, cap, h1, h2, h3, h4, h5, h6, h7⟩
  · exact Or.inl h
  · refine Or.inr ⟨b, off, cap, h1, h2, h3, h4, Nat.le_trans hl h5, h6, fun i hi => ?_⟩
    obtain ⟨hs, hc⟩ := h7 i hi
    exact ⟨hs, hc⟩
theorem SvsAt.set {lo : Nat} {w : World} {v : Value} {Xl : List Sv} (h : SvsAt lo w v Xl) {p : Addr} (hp : p.block < lo) (u : Value) : SvsAt lo (w.setCell p u) v Xl := by
  rcases h with h | ⟨b, off, cap, h1, h2, h3, h4, h5, h6, h7⟩
  · exact Or.inl h
  · refine Or.inr ⟨b, off, cap, h1, h2, h3, by simpa [World.setCell] using h4, h5, h6, fun i hi => ?_⟩
    obtain ⟨hs, hc⟩ := h7 i hi
    exact ⟨hs, hc.set (by omega) u⟩
theorem SvsAt.form {lo : Nat} {w : World} {v : Value} {Xl : List Sv} (h : SvsAt lo w v Xl) : ∃ a cap, v = .slice a Xl.length cap := by
  rcases h with ⟨a, cap, h, rfl⟩ | ⟨b, off, cap, h, _⟩
  · exact ⟨a, cap, h⟩
  · exact ⟨_, cap, h⟩
theorem SvsAt.max {lo : Nat} {w : World} {v : Value} {Xl : List Sv} (h : SvsAt lo w v Xl) : Xl.length ≤ maxLen := by
  rcases h with ⟨a, cap, h, rfl⟩ | ⟨b, off, cap, h, _, h3, _⟩
  · exact Nat.zero_le _
  · exact h3
theorem SvsAt.full {lo : Nat} {w : World} {v : Value} {Xl : List Sv} (h : SvsAt lo w v Xl) (hne : Xl ≠ []) : ∃ (b off cap : Nat), v = .slice (some ⟨b, off, none⟩) Xl.length cap ∧ Xl.length ≤ maxLen ∧ b < w.heap.size ∧ Xl.length ≤ cap ∧
    ∀ i (h : i < Xl.length), SvSize Xl[i] ∧ SvCells w b (off + i * 13) Xl[i] := by
  rcases h with ⟨_, _, _, h⟩ | ⟨b, off, cap, h1, _, h3, h4, _, h6, h7⟩
  · exact absurd h hne
  · exact ⟨b, off, cap, h1, h3, h4, h6, h7⟩
theorem SvsAt.full' {lo : Nat} {w : World} {a : Option Addr} {n cap : Nat} {Xl : List Sv} (h : SvsAt lo w (.slice a n cap) Xl) (hL : 0 < Xl.length) :
    ∃ b off, a = some ⟨b, off, none⟩ ∧ b < w.heap.size ∧ lo ≤ b ∧ ∀ i (h : i < Xl.length), SvSize Xl[i] ∧ SvCells w b (off + i * 13) Xl[i] := by
  rcases h with ⟨a', cap', h, rfl⟩ | ⟨b', off', cap', h1, h2, h3, h4, h5, h6, h7⟩
  · simp at hL
  · injection h1 with e1 e2 e3
    exact ⟨b', off', e1, h4, h5, h7⟩
def SvsSmall (Xl : List Sv) : Prop := Xl.length ≤ 1048576 ∧ ∀ i (h : i < Xl.length), SvSmall Xl[i]
def SzSvs (Xl : List Sv) (left r : Int) : Prop := -1 ≤ r ∧ r ≤ left ∧ (0 ≤ r → SvsSmall Xl)

end Go.Proofs.Ytoklnkojacdciaa
namespace Go.Proofs.Ytoklnkojacdciaa
open Go.RowKit Go.Deep

structure Cp where
  se : ByteArray
  nu : Int
  ve : Int
  im : Int
  st : Int
  en : Bool
  be : ByteArray
structure CpSize (x : Cp) : Prop where
  s0 : x.se.size ≤ maxLen
  s1 : x.be.size ≤ maxLen
def CpSmall (x : Cp) : Prop := x = x
structure CpCells (w : World) (b o : Nat) (x : Cp) : Prop where
  c0 : w.cell? ⟨b, o, none⟩ = some (.string x.se)
  c1 : w.cell? ⟨b, o + 1, none⟩ = some (.int .i64 x.nu)
  c2 : w.cell? ⟨b, o + 2, none⟩ = some (.int .i64 x.ve)
  c3 : w.cell? ⟨b, o + 3, none⟩ = some (.int .i64 x.im)
  c4 : w.cell? ⟨b, o + 4, none⟩ = some (.int .i64 x.st)
  c5 : w.cell? ⟨b, o + 5, none⟩ = some (.bool x.en)
  c6 : w.cell? ⟨b, o + 6, none⟩ = some (.string x.be)
theorem CpCells.below {w w' : World} {b o : Nat} {x : Cp} (h : CpCells w b o x ) {m : Nat} (hb : Below m w w') (hlt : b < m) : CpCells w' b o x  := by
  have e : ∀ o, w'.cell? ⟨b, o, none⟩ = w.cell? ⟨b, o, none⟩ := fun o => hb.cell (p := ⟨b, o, none⟩) hlt
  exact ⟨by rw [e]; exact h.c0, by rw [e]; exact h.c1, by rw [e]; exact h.c2, by rw [e]; exact h.c3, by rw [e]; exact h.c4, by rw [e]; exact h.c5, by rw [e]; exact h.c6⟩
theorem CpCells.set {w : World} {b o : Nat} {x : Cp} (h : CpCells w b o x ) {p : Addr} (hp : b ≠ p.block) (u : Value) : CpCells (w.setCell p u) b o x  := by
  have e : ∀ o, (w.setCell p u).cell? ⟨b, o, none⟩ = w.cell? ⟨b, o, none⟩ := fun o => cell_setCell_ne _ _ _ _ hp
  exact ⟨by rw [e]; exact h.c0, by rw [e]; exact h.c1, by rw [e]; exact h.c2, by rw [e]; exact h.c3, by rw [e]; exact h.c4, by rw [e]; exact h.c5, by rw [e]; exact h.c6⟩
def CpsAt (lo : Nat) (w : World) (v : Value) (Xl : List Cp) : Prop :=
  (∃ (a : Option Addr) (cap : Nat), v = .slice a 0 cap ∧ Xl = []) ∨
  ∃ (b off cap : Nat), v = .slice (some ⟨b, off, none⟩) Xl.length cap ∧ Xl ≠ [] ∧ Xl.length ≤ maxLen ∧ b < w.heap.size ∧ lo ≤ b ∧ Xl.length ≤ cap ∧
    ∀ i (h : i < Xl.length), CpSize Xl[i] ∧ CpCells w b (off + i * 7) Xl[i]
theorem CpsAt.below {lo : Nat} {w w' : World} {v : Value} {Xl : List Cp} (h : CpsAt lo w v Xl) (hb : Below w.heap.size w w') : CpsAt lo w' v Xl := by
  rcases h with h | ⟨b, off, cap, h1, h2, h3, h4, h5, h6, h7⟩
  · exact Or.inl h
  · refine Or.inr ⟨b, off, cap, h1, h2, h3, Nat.lt_of_lt_of_le h4 hb.size, h5, h6, fun i hi => ?_⟩
    obtain ⟨hs, hc⟩ := h7 i hi
    exact ⟨hs, hc.below hb h4⟩
theorem CpsAt.mono {lo lo' : Nat} {w : World} {v : Value} {Xl : List Cp} (h : CpsAt lo w v Xl) (hl : lo' ≤ lo) : CpsAt lo' w v Xl := by
  rcases h with h | ⟨b, off, cap, h1, h2, h3, h4, h5, h6, h7⟩
  · exact Or.inl h
  · refine Or.inr ⟨b, off, cap, h1, h2, h3, h4, Nat.le_trans hl h5, h6, fun i hi => ?_⟩
    obtain ⟨hs, hc⟩ := h7 i hi
    exact ⟨hs, hc⟩
theorem CpsAt.set {lo : Nat} {w : World} {v : Value} {Xl : List Cp} (h : CpsAt lo w v Xl) {p : Addr} (hp : p.block < lo) (u : Value) : CpsAt lo (w.setCell p u) v Xl := by
  rcases h with h | ⟨b, off, cap, h1, h2, h3, h4, h5, h6, h7⟩
  · exact Or.inl h
  · refine Or.inr ⟨b, off, cap, h1, h2, h3, by simpa [World.setCell] using h4, h5, h6, fun i hi => ?_⟩
    obtain ⟨hs, hc⟩ := h7 i hi
    exact ⟨hs, hc.set (by omega) u⟩
theorem CpsAt.form {lo : Nat} {w : World} {v : Value} {Xl : List Cp} (h : CpsAt lo w v Xl) : ∃ a cap, v = .slice a Xl.length cap := by
  rcases h with ⟨a, cap, h, rfl⟩ | ⟨b, off, cap, h, _⟩
  · exact ⟨a, cap, h⟩
  · exact ⟨_, cap, h⟩
theorem CpsAt.max {lo : Nat} {w : World} {v : Value} {Xl : List Cp} (h : CpsAt lo w v Xl) : Xl.length ≤ maxLen := by
  rcases h with ⟨a, cap, h, rfl⟩ | ⟨b, off, cap, h, _, h3, _⟩
  · exact Nat.zero_le _
  · exact h3
theorem CpsAt.full {lo : Nat} {w : World} {v : Value} {Xl : List Cp} (h : CpsAt lo w v Xl) (hne : Xl ≠ []) : ∃ (b off cap : Nat), v = .slice (some ⟨b, off, none⟩) Xl.length cap ∧ Xl.length ≤ maxLen ∧ b < w.heap.size ∧ Xl.length ≤ cap ∧
    ∀ i (h : i < Xl.length), CpSize Xl[i] ∧ CpCells w b (off + i * 7) Xl[i] := by
  rcases h with ⟨_, _, _, h⟩ | ⟨b, off, cap, h1, _, h3, h4, _, h6, h7⟩
  · exact absurd h hne
  · exact ⟨b, off, cap, h1, h3, h4, h6, h7⟩
theorem CpsAt.full' {lo : Nat} {w : World} {a : Option Addr} {n cap : Nat} {Xl : List Cp} (h : CpsAt lo w (.slice a n cap) Xl) (hL : 0 < Xl.length) :
    ∃ b off, a = some ⟨b, off, none⟩ ∧ b < w.heap.size ∧ lo ≤ b ∧ ∀ i (h : i < Xl.length), CpSize Xl[i] ∧ CpCells w b (off + i * 7) Xl[i] := by
  rcases h with ⟨a', cap', h, rfl⟩ | ⟨b', off', cap', h1, h2, h3, h4, h5, h6, h7⟩
  · simp at hL
  · injection h1 with e1 e2 e3
    exact ⟨b', off', e1, h4, h5, h7⟩
def CpsSmall (Xl : List Cp) : Prop := Xl.length ≤ 1048576 ∧ ∀ i (h : i < Xl.length), CpSmall Xl[i]
def SzCps (Xl : List Cp) (left r : Int) : Prop := -1 ≤ r ∧ r ≤ left ∧ (0 ≤ r → CpsSmall Xl)

end Go.Proofs.Ytoklnkojacdciaa
namespace Go.Proofs.Ytoklnkojacdciaa
open Go.RowKit Go.Deep

structure Be where
  nm : ByteArray
  dr : Bool
structure BeSize (x : Be) : Prop where
  s0 : x.nm.size ≤ maxLen
def BeSmall (x : Be) : Prop := x = x
structure BeCells (w : World) (b o : Nat) (x : Be) : Prop where
  c0 : w.cell? ⟨b, o, none⟩ = some (.string x.nm)
  c1 : w.cell? ⟨b, o + 1, none⟩ = some (.bool x.dr)
theorem BeCells.below {w w' : World} {b o : Nat} {x : Be} (h : BeCells w b o x ) {m : Nat} (hb : Below m w w') (hlt : b < m) : BeCells w' b o x  := by
  have e : ∀ o, w'.cell? ⟨b, o, none⟩ = w.cell? ⟨b, o, none⟩ := fun o => hb.cell (p := ⟨b, o, none⟩) hlt
  exact ⟨by rw [e]; exact h.c0, by rw [e]; exact h.c1⟩
theorem BeCells.set {w : World} {b o : Nat} {x : Be} (h : BeCells w b o x ) {p : Addr} (hp : b ≠ p.block) (u : Value) : BeCells (w.setCell p u) b o x  := by
  have e : ∀ o, (w.setCell p u).cell? ⟨b, o, none⟩ = w.cell? ⟨b, o, none⟩ := fun o => cell_setCell_ne _ _ _ _ hp
  exact ⟨by rw [e]; exact h.c0, by rw [e]; exact h.c1⟩
def BesAt (lo : Nat) (w : World) (v : Value) (Xl : List Be) : Prop :=
  (∃ (a : Option Addr) (cap : Nat), v = .slice a 0 cap ∧ Xl = []) ∨
  ∃ (b off cap : Nat), v = .slice (some ⟨b, off, none⟩) Xl.length cap ∧ Xl ≠ [] ∧ Xl.length ≤ maxLen ∧ b < w.heap.size ∧ lo ≤ b ∧ Xl.length ≤ cap ∧
    ∀ i (h : i < Xl.length), BeSize Xl[i] ∧ BeCells w b (off + i * 2) Xl[i]
theorem BesAt.below {lo : Nat} {w w' : World} {v : Value} {Xl : List Be} (h : BesAt lo w v Xl) (hb : Below w.heap.size w w') : BesAt lo w' v Xl := by
  rcases h with h | ⟨b, off, cap, h1, h2, h3, h4, h5, h6, h7⟩
  · exact Or.inl h
  · refine Or.inr ⟨b, off, cap, h1, h2, h3, Nat.lt_of_lt_of_le h4 hb.size, h5, h6, fun i hi => ?_⟩
    obtain ⟨hs, hc⟩ := h7 i hi
    exact ⟨hs, hc.below hb h4⟩
theorem BesAt.mono {lo lo' : Nat} {w : World} {v : Value} {Xl : List Be} (h : BesAt lo w v Xl) (hl : lo' ≤ lo) : BesAt lo' w v Xl := by
  rcases h with h | ⟨b, off, cap, h1, h2, h3, h4, h5, h6, h7⟩
  · exact Or.inl h
  · refine Or.inr ⟨b, off, cap, h1, h2, h3, h4, Nat.le_trans hl h5, h6, fun i hi => ?_⟩
    obtain ⟨hs, hc⟩ := h7 i hi
    exact ⟨hs, hc⟩
theorem BesAt.set {lo : Nat} {w : World} {v : Value} {Xl : List Be} (h : BesAt lo w v Xl) {p : Addr} (hp : p.block < lo) (u : Value) : BesAt lo (w.setCell p u) v Xl := by
  rcases h with h | ⟨b, off, cap, h1, h2, h3, h4, h5, h6, h7⟩
  · exact Or.inl h
  · refine Or.inr ⟨b, off, cap, h1, h2, h3, by simpa [World.setCell] using h4, h5, h6, fun i hi => ?_⟩
    obtain ⟨hs, hc⟩ := h7 i hi
    exact ⟨hs, hc.set (by omega) u⟩
theorem BesAt.form {lo : Nat} {w : World} {v : Value} {Xl : List Be} (h : BesAt lo w v Xl) : ∃ a cap, v = .slice a Xl.length cap := by
  rcases h with ⟨a, cap, h, rfl⟩ | ⟨b, off, cap, h, _⟩
  · exact ⟨a, cap, h⟩
  · exact ⟨_, cap, h⟩
theorem BesAt.max {lo : Nat} {w : World} {v : Value} {Xl : List Be} (h : BesAt lo w v Xl) : Xl.length ≤ maxLen := by
  rcases h with ⟨a, cap, h, rfl⟩ | ⟨b, off, cap, h, _, h3, _⟩
  · exact Nat.zero_le _
  · exact h3
theorem BesAt.full {lo : Nat} {w : World} {v : Value} {Xl : List Be} (h : BesAt lo w v Xl) (hne : Xl ≠ []) : ∃ (b off cap : Nat), v = .slice (some ⟨b, off, none⟩) Xl.length cap ∧ Xl.length ≤ maxLen ∧ b < w.heap.size ∧ Xl.length ≤ cap ∧
    ∀ i (h : i < Xl.length), BeSize Xl[i] ∧ BeCells w b (off + i * 2) Xl[i] := by
  rcases h with ⟨_, _, _, h⟩ | ⟨b, off, cap, h1, _, h3, h4, _, h6, h7⟩
  · exact absurd h hne
  · exact ⟨b, off, cap, h1, h3, h4, h6, h7⟩
theorem BesAt.full' {lo : Nat} {w : World} {a : Option Addr} {n cap : Nat} {Xl : List Be} (h : BesAt lo w (.slice a n cap) Xl) (hL : 0 < Xl.length) :
    ∃ b off, a = some ⟨b, off, none⟩ ∧ b < w.heap.size ∧ lo ≤ b ∧ ∀ i (h : i < Xl.length), BeSize Xl[i] ∧ BeCells w b (off + i * 2) Xl[i] := by
  rcases h with ⟨a', cap', h, rfl⟩ | ⟨b', off', cap', h1, h2, h3, h4, h5, h6, h7⟩
  · simp at hL
  · injection h1 with e1 e2 e3
    exact ⟨b', off', e1, h4, h5, h7⟩
def BesSmall (Xl : List Be) : Prop := Xl.length ≤ 1048576 ∧ ∀ i (h : i < Xl.length), BeSmall Xl[i]
def SzBes (Xl : List Be) (left r : Int) : Prop := -1 ≤ r ∧ r ≤ left ∧ (0 ≤ r → BesSmall Xl)

end Go.Proofs.Ytoklnkojacdciaa
namespace Go.Proofs.Ytoklnkojacdciaa
open Go.RowKit Go.Deep

/-- a stewards' book -/
structure Sb where
  now : Int
  ss : List Sv
  cs : List Cp
  bs : List Be
/-- a book in memory, all of it above lo -/
structure SbAt (lo : Nat) (w : World) (sv cv bv : Value) (B : Sb) : Prop where
  svs : SvsAt lo w sv B.ss
  cps : CpsAt lo w cv B.cs
  bes : BesAt lo w bv B.bs
theorem SbAt.below {lo : Nat} {w w' : World} {sv cv bv : Value} {B : Sb} (h : SbAt lo w sv cv bv B) (hb : Below w.heap.size w w') : SbAt lo w' sv cv bv B :=
  ⟨h.svs.below hb, h.cps.below hb, h.bes.below hb⟩
theorem SbAt.mono {lo lo' : Nat} {w : World} {sv cv bv : Value} {B : Sb} (h : SbAt lo w sv cv bv B) (hl : lo' ≤ lo) : SbAt lo' w sv cv bv B :=
  ⟨h.svs.mono hl, h.cps.mono hl, h.bes.mono hl⟩
theorem SbAt.set {lo : Nat} {w : World} {sv cv bv : Value} {B : Sb} (h : SbAt lo w sv cv bv B) {p : Addr} (hp : p.block < lo) (u : Value) : SbAt lo (w.setCell p u) sv cv bv B :=
  ⟨h.svs.set hp u, h.cps.set hp u, h.bes.set hp u⟩
def SbSmall (B : Sb) : Prop := SvsSmall B.ss ∧ CpsSmall B.cs ∧ BesSmall B.bs

section
variable (lo : Nat) (sv cv bv : Value) (B : Sb) (w : World)

end
end Go.Proofs.Ytoklnkojacdciaa
