import Derived.Test.YtdeammfdkaomlaaGreatV17
import Derived.Test.YtdeammfdkaomlaaGreatV32
import Derived.Lib.SliceRun
import Derived.Deep.RegionLaw
import Derived.Deep.RegionHeldLaw
import Derived.Laws.IdiomCopy
import Derived.RangeFuncNested
import Derived.Deep.RegionHeld3
namespace Go.Proofs.YtdeammfdkaomlaaGreat
open Go.RowKit Go.Deep

theorem LesOwn.some {l0 l1 : Nat} {W : World} {a : Option Addr} {n cap : Nat} {Ls : List Le} (h : LesOwn l0 l1 W (.slice a n cap) Ls) (hp : 0 < Ls.length) : ∃ b off, a = some ⟨b, off, none⟩ := by
  rcases h with ⟨_, _, _, h⟩ | ⟨b', off', cap', c, X, h1, _⟩
  · rw [h] at hp; simp at hp
  · injection h1 with e1
    exact ⟨b', off', e1⟩
theorem PusOwn.some {l0 l1 : Nat} {W : World} {a : Option Addr} {n cap : Nat} {Ls : List Pu} (h : PusOwn l0 l1 W (.slice a n cap) Ls) (hp : 0 < Ls.length) : ∃ b off, a = some ⟨b, off, none⟩ := by
  rcases h with ⟨_, _, _, h⟩ | ⟨b', off', cap', c, X, h1, _⟩
  · rw [h] at hp; simp at hp
  · injection h1 with e1
    exact ⟨b', off', e1⟩
theorem BookOwn.setLow {lo hi : Nat} {w : World} {ov gv lv pv : Value} {B : Bk} (h : BookOwn lo hi w ov gv lv pv B) {p : Addr} (hp : p.block < lo) (u : Value) : BookOwn lo hi (w.setCell p u) ov gv lv pv B := h.touch (Touch.setCell p.block (p.block + 1) w p u ⟨Nat.le_refl _, Nat.lt_succ_self _⟩) (Or.inr hp)
theorem Touch.ofBelow {m : Nat} {w w' : World} (h : Below m w w') : Touch m w.heap.size w w' := ⟨h.os, h.tape, h.output, h.size, fun k hk ho => h.block k (by omega)⟩
end Go.Proofs.YtdeammfdkaomlaaGreat
namespace Go.Proofs.YtdeammfdkaomlaaGreat
open Go.RowKit Go.Deep Go.Maps

abbrev Held3 (W0 : World) (b1 : Nat) (cs1 : Array Value) (b2 : Nat) (cs2 : Array Value) (b3 : Nat) (cs3 : Array Value) (W : World) : Prop :=
  (∀ i, W.cell? ⟨b1, i, none⟩ = cs1[i]?) ∧ (∀ i, W.cell? ⟨b2, i, none⟩ = cs2[i]?) ∧ (∀ i, W.cell? ⟨b3, i, none⟩ = cs3[i]?) ∧ Hid (Below W0.heap.size W0 W ∧ b1 < W0.heap.size ∧ b2 < W0.heap.size ∧ b3 < W0.heap.size)
theorem Held3.drew {W0 : World} {b1 b2 b3 : Nat} {cs1 cs2 cs3 : Array Value} (h1 : Box W0 b1 cs1) (h2 : Box W0 b2 cs2) (h3 : Box W0 b3 cs3) : Held3 W0 b1 cs1 b2 cs2 b3 cs3 W0.drew := ⟨h1.cell, h2.cell, h3.cell, (Below.refl _ _).drew, h1.lt, h2.lt, h3.lt⟩
theorem Held3.on {W0 W W' : World} {b1 b2 b3 : Nat} {cs1 cs2 cs3 : Array Value} (h : Held3 W0 b1 cs1 b2 cs2 b3 cs3 W) (hb : Below W.heap.size W W') : Held3 W0 b1 cs1 b2 cs2 b3 cs3 W' := by
  obtain ⟨h1, h2, h3, h4, h5, h6, h7⟩ := h
  have := h4.size
  exact ⟨fun i => (hb.cell (p := ⟨b1, i, none⟩) (by simp only []; omega)).trans (h1 i), fun i => (hb.cell (p := ⟨b2, i, none⟩) (by simp only []; omega)).trans (h2 i), fun i => (hb.cell (p := ⟨b3, i, none⟩) (by simp only []; omega)).trans (h3 i), h4.trans (hb.mono h4.size), h5, h6, h7⟩
end Go.Proofs.YtdeammfdkaomlaaGreat
