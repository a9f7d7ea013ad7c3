import Derived.Test.YtdeammfdkaomlaaGreatV00
import Derived.WideMake
import Derived.Deep.RegionWith
namespace Go.Proofs.YtdeammfdkaomlaaGreat
open Go.RowKit Go.Deep

/-- a field -/
structure Fd where
  nm : ByteArray
  kd : Int
  le : Int
  mo : Int
  words : List ByteArray
  to : ByteArray
  ro : Int
  mu : Bool
  fx : Bool
  df : ByteArray
  we : ByteArray

/-- THE ELEVEN CELLS OF A FIELD, from place o of block b on. -/
structure FdCells (w : World) (b o : Nat) (f : Fd) (wv : Value) : Prop where
  c0 : w.cell? ⟨b, o, none⟩ = some (.string f.nm)
  c1 : w.cell? ⟨b, o + 1, none⟩ = some (.int .i64 f.kd)
  c2 : w.cell? ⟨b, o + 2, none⟩ = some (.int .i64 f.le)
  c3 : w.cell? ⟨b, o + 3, none⟩ = some (.int .i64 f.mo)
  c4 : w.cell? ⟨b, o + 4, none⟩ = some wv
  c5 : w.cell? ⟨b, o + 5, none⟩ = some (.string f.to)
  c6 : w.cell? ⟨b, o + 6, none⟩ = some (.int .i64 f.ro)
  c7 : w.cell? ⟨b, o + 7, none⟩ = some (.bool f.mu)
  c8 : w.cell? ⟨b, o + 8, none⟩ = some (.bool f.fx)
  c9 : w.cell? ⟨b, o + 9, none⟩ = some (.string f.df)
  c10 : w.cell? ⟨b, o + 10, none⟩ = some (.string f.we)

structure FdSize (f : Fd) : Prop where
  s0 : f.nm.size ≤ maxLen
  s5 : f.to.size ≤ maxLen
  s9 : f.df.size ≤ maxLen
  s10 : f.we.size ≤ maxLen

theorem FdCells.below {w w' : World} {b o : Nat} {f : Fd} {wv : Value} (h : FdCells w b o f wv) (hb : Below w.heap.size w w') (hlt : b < w.heap.size) : FdCells w' b o f wv := by
  have e : ∀ o, w'.cell? ⟨b, o, none⟩ = w.cell? ⟨b, o, none⟩ := fun o => hb.cell (p := ⟨b, o, none⟩) hlt
  exact ⟨by rw [e]; exact h.c0, by rw [e]; exact h.c1, by rw [e]; exact h.c2, by rw [e]; exact h.c3, by rw [e]; exact h.c4, by rw [e]; exact h.c5, by rw [e]; exact h.c6, by rw [e]; exact h.c7, by rw [e]; exact h.c8, by rw [e]; exact h.c9, by rw [e]; exact h.c10⟩

/-- A []GateField THAT HOLDS Fs; its cells lie from block lo on. -/
def FdsAt (lo : Nat) (w : World) (v : Value) (Fs : List Fd) : Prop :=
  (∃ (a : Option Addr) (cap : Nat), v = .slice a 0 cap ∧ Fs = []) ∨
  ∃ (b off cap : Nat), v = .slice (some ⟨b, off, none⟩) Fs.length cap ∧ Fs ≠ [] ∧ Fs.length ≤ maxLen ∧ b < w.heap.size ∧ lo ≤ b ∧ Fs.length ≤ cap ∧
    ∀ i (h : i < Fs.length), FdSize Fs[i] ∧ ∃ wv, FdCells w b (off + i * 11) Fs[i] wv ∧ StrsIn lo w wv Fs[i].words

theorem FdsAt.below {lo : Nat} {w w' : World} {v : Value} {Fs : List Fd} (h : FdsAt lo w v Fs) (hb : Below w.heap.size w w') : FdsAt lo w' v Fs := by
  rcases h with h | ⟨b, off, cap, h1, h2, h3, h4, h5, h6, h7⟩
  · exact Or.inl h
  · refine Or.inr ⟨b, off, cap, h1, h2, h3, Nat.lt_of_lt_of_le h4 hb.size, h5, h6, fun i hi => ?_⟩
    obtain ⟨hs, wv, hc, hw⟩ := h7 i hi
    exact ⟨hs, wv, hc.below hb h4, hw.below hb⟩
theorem FdsAt.mono {lo lo' : Nat} {w : World} {v : Value} {Fs : List Fd} (h : FdsAt lo w v Fs) (hl : lo' ≤ lo) : FdsAt lo' w v Fs := by
  rcases h with h | ⟨b, off, cap, h1, h2, h3, h4, h5, h6, h7⟩
  · exact Or.inl h
  · refine Or.inr ⟨b, off, cap, h1, h2, h3, h4, Nat.le_trans hl h5, h6, fun i hi => ?_⟩
    obtain ⟨hs, wv, hc, hw⟩ := h7 i hi
    exact ⟨hs, wv, hc, hw.mono hl⟩
theorem FdsAt.form {lo : Nat} {w : World} {v : Value} {Fs : List Fd} (h : FdsAt lo w v Fs) : ∃ a cap, v = .slice a Fs.length cap := by
  rcases h with ⟨a, cap, h, rfl⟩ | ⟨b, off, cap, h, _⟩
  · exact ⟨a, cap, h⟩
  · exact ⟨_, cap, h⟩

/-- a shape -/
structure Sh where
  kind : ByteArray
  fields : List Fd

/-- A []GateShape THAT HOLDS Ss; its cells lie from block lo on. -/
def ShsAt (lo : Nat) (w : World) (v : Value) (Ss : List Sh) : Prop :=
  (∃ (a : Option Addr) (cap : Nat), v = .slice a 0 cap ∧ Ss = []) ∨
  ∃ (b off cap : Nat), v = .slice (some ⟨b, off, none⟩) Ss.length cap ∧ Ss ≠ [] ∧ Ss.length ≤ maxLen ∧ b < w.heap.size ∧ lo ≤ b ∧
    ∀ i (h : i < Ss.length), Ss[i].kind.size ≤ maxLen ∧ ∃ fv, w.cell? ⟨b, off + i * 2, none⟩ = some (.string Ss[i].kind) ∧ w.cell? ⟨b, off + i * 2 + 1, none⟩ = some fv ∧ FdsAt lo w fv Ss[i].fields

theorem ShsAt.below {lo : Nat} {w w' : World} {v : Value} {Ss : List Sh} (h : ShsAt lo w v Ss) (hb : Below w.heap.size w w') : ShsAt lo w' v Ss := by
  rcases h with h | ⟨b, off, cap, h1, h2, h3, h4, h5, h7⟩
  · exact Or.inl h
  · refine Or.inr ⟨b, off, cap, h1, h2, h3, Nat.lt_of_lt_of_le h4 hb.size, h5, fun i hi => ?_⟩
    obtain ⟨hs, fv, hc, hc', hw⟩ := h7 i hi
    exact ⟨hs, fv, by rw [hb.cell (p := ⟨b, _, none⟩) h4]; exact hc, by rw [hb.cell (p := ⟨b, _, none⟩) h4]; exact hc', hw.below hb⟩
theorem ShsAt.mono {lo lo' : Nat} {w : World} {v : Value} {Ss : List Sh} (h : ShsAt lo w v Ss) (hl : lo' ≤ lo) : ShsAt lo' w v Ss := by
  rcases h with h | ⟨b, off, cap, h1, h2, h3, h4, h5, h7⟩
  · exact Or.inl h
  · refine Or.inr ⟨b, off, cap, h1, h2, h3, h4, Nat.le_trans hl h5, fun i hi => ?_⟩
    obtain ⟨hs, fv, hc, hc', hw⟩ := h7 i hi
    exact ⟨hs, fv, hc, hc', hw.mono hl⟩
theorem ShsAt.form {lo : Nat} {w : World} {v : Value} {Ss : List Sh} (h : ShsAt lo w v Ss) : ∃ a cap, v = .slice a Ss.length cap := by
  rcases h with ⟨a, cap, h, rfl⟩ | ⟨b, off, cap, h, _⟩
  · exact ⟨a, cap, h⟩
  · exact ⟨_, cap, h⟩

end Go.Proofs.YtdeammfdkaomlaaGreat
namespace Go.Proofs.YtdeammfdkaomlaaGreat
open Go.RowKit Go.Deep

theorem FdsAt.full {lo : Nat} {w : World} {v : Value} {Fs : List Fd} (h : FdsAt lo w v Fs) (hne : Fs ≠ []) : ∃ (b off cap : Nat), v = .slice (some ⟨b, off, none⟩) Fs.length cap ∧ Fs.length ≤ maxLen ∧ b < w.heap.size ∧ Fs.length ≤ cap ∧
    ∀ i (h : i < Fs.length), FdSize Fs[i] ∧ ∃ wv, FdCells w b (off + i * 11) Fs[i] wv ∧ StrsIn lo w wv Fs[i].words := by
  rcases h with ⟨_, _, _, h⟩ | ⟨b, off, cap, h1, _, h3, h4, _, h6, h7⟩
  · exact absurd h hne
  · exact ⟨b, off, cap, h1, h3, h4, h6, h7⟩
theorem ShsAt.full {lo : Nat} {w : World} {v : Value} {Ss : List Sh} (h : ShsAt lo w v Ss) (hne : Ss ≠ []) : ∃ (b off cap : Nat), v = .slice (some ⟨b, off, none⟩) Ss.length cap ∧ Ss.length ≤ maxLen ∧ b < w.heap.size ∧
    ∀ i (h : i < Ss.length), Ss[i].kind.size ≤ maxLen ∧ ∃ fv, w.cell? ⟨b, off + i * 2, none⟩ = some (.string Ss[i].kind) ∧ w.cell? ⟨b, off + i * 2 + 1, none⟩ = some fv ∧ FdsAt lo w fv Ss[i].fields := by
  rcases h with ⟨_, _, _, h⟩ | ⟨b, off, cap, h1, _, h3, h4, _, h7⟩
  · exact absurd h hne
  · exact ⟨b, off, cap, h1, h3, h4, h7⟩

end Go.Proofs.YtdeammfdkaomlaaGreat
namespace Go.Proofs.YtdeammfdkaomlaaGreat
open Go.RowKit Go.Deep

theorem FdCells.setCell {w : World} {b o : Nat} {f : Fd} {wv : Value} (h : FdCells w b o f wv) {p : Addr} (hp : b ≠ p.block) (u : Value) : FdCells (w.setCell p u) b o f wv := by
  have e : ∀ o, (w.setCell p u).cell? ⟨b, o, none⟩ = w.cell? ⟨b, o, none⟩ := fun o => cell_setCell_ne _ _ _ _ hp
  exact ⟨by rw [e]; exact h.c0, by rw [e]; exact h.c1, by rw [e]; exact h.c2, by rw [e]; exact h.c3, by rw [e]; exact h.c4, by rw [e]; exact h.c5, by rw [e]; exact h.c6, by rw [e]; exact h.c7, by rw [e]; exact h.c8, by rw [e]; exact h.c9, by rw [e]; exact h.c10⟩
theorem FdsAt.setCell {lo : Nat} {w : World} {v : Value} {Fs : List Fd} (h : FdsAt lo w v Fs) {p : Addr} (hp : p.block < lo) (u : Value) : FdsAt lo (w.setCell p u) v Fs := by
  rcases h with h | ⟨b, off, cap, h1, h2, h3, h4, h5, h6, h7⟩
  · exact Or.inl h
  · refine Or.inr ⟨b, off, cap, h1, h2, h3, by simpa [World.setCell] using h4, h5, h6, fun i hi => ?_⟩
    obtain ⟨hs, wv, hc, hw⟩ := h7 i hi
    exact ⟨hs, wv, hc.setCell (by omega) u, hw.setCell hp u⟩

end Go.Proofs.YtdeammfdkaomlaaGreat
namespace Go.Proofs.YtdeammfdkaomlaaGreat
open Go.RowKit Go.Deep

theorem range_all {n : Nat} {p : Nat → Bool} (h : ∀ i, i < n → p i = true) : (List.range n).all p = true := by
  rw [List.all_eq_true]; intro i hi; exact h i (List.mem_range.1 hi)
theorem range_not {n k : Nat} {p : Nat → Bool} (hk : k < n) (h : p k = false) : (List.range n).all p = false := by
  rw [List.all_eq_false]; exact ⟨k, List.mem_range.2 hk, by simp [h]⟩

/-- place i is a name, and above the one ahead -/
def ascAt (L : List ByteArray) (i : Nat) : Bool :=
  nameB (L.getD i ⟨#[]⟩) && (i == 0 || Op.bytesLess (L.getD (i - 1) ⟨#[]⟩).toList (L.getD i ⟨#[]⟩).toList)
def ascB (L : List ByteArray) : Bool := (List.range L.length).all (ascAt L)

end Go.Proofs.YtdeammfdkaomlaaGreat
namespace Go.Proofs.YtdeammfdkaomlaaGreat
open Go.RowKit Go.Deep

theorem cell_set_ne (w : World) (p q : Addr) (u : Value) (h : p ≠ q) : (w.setCell p u).cell? q = w.cell? q := by
  apply World.cell?_setCell_other; exact h
theorem cell_set_eq (w : World) (p : Addr) (u v : Value) (h : w.cell? p = some v) : (w.setCell p u).cell? p = some u := by
  apply World.cell?_setCell_same; exact h

def shOf (Ss : List Sh) (s : ByteArray) : Option Sh := Ss.find? fun x => x.kind.toList == s.toList
def hasK (Ss : List Sh) (s : ByteArray) : Bool := (shOf Ss s).isSome

end Go.Proofs.YtdeammfdkaomlaaGreat
