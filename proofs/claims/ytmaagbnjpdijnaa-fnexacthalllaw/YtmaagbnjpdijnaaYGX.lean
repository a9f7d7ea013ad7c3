import Derived.Test.YtmaagbnjpdijnaaYSX
import Derived.Test.YtmaagbnjpdijnaaYJB
import Derived.Deep.RegionHeldLaw
import Derived.Test.YtmaagbnjpdijnaaYBOG
import Derived.Test.YtmaagbnjpdijnaaYOWX
import Derived.Test.YtmaagbnjpdijnaaYBBL
import Derived.Test.YtmaagbnjpdijnaaYBW
import Derived.Test.YtmaagbnjpdijnaaYM2
namespace Go.Proofs.Ytmaagbnjpdijnaa
open Go.RowKit Go.Deep

end Go.Proofs.Ytmaagbnjpdijnaa

namespace Go.Proofs.Ytmaagbnjpdijnaa
open Go.RowKit Go.Deep

theorem LesOwn.some {l0 l1 : Nat} {W : World} {a : Option Addr} {n cap : Nat} {Ls : List Le} (h : LesOwn l0 l1 W (.slice a n cap) Ls) (hp : 0 < Ls.length) : ∃ b off, a = some ⟨b, off, none⟩ := by
  rcases h with ⟨_, _, _, h⟩ | ⟨b', off', cap', c, X, h1, _⟩
  · rw [h] at hp; simp at hp
  · injection h1 with e1
    exact ⟨b', off', e1⟩
theorem PusOwn.some {l0 l1 : Nat} {W : World} {a : Option Addr} {n cap : Nat} {Ls : List Pu} (h : PusOwn l0 l1 W (.slice a n cap) Ls) (hp : 0 < Ls.length) : ∃ b off, a = some ⟨b, off, none⟩ := by
  rcases h with ⟨_, _, _, h⟩ | ⟨b', off', cap', c, X, h1, _⟩
  · rw [h] at hp; simp at hp
  · injection h1 with e1
    exact ⟨b', off', e1⟩
theorem BookOwn.setLow {lo hi : Nat} {w : World} {ov gv lv pv : Value} {B : Bk} (h : BookOwn lo hi w ov gv lv pv B) {p : Addr} (hp : p.block < lo) (u : Value) : BookOwn lo hi (w.setCell p u) ov gv lv pv B := h.touch (Touch.setCell p.block (p.block + 1) w p u ⟨Nat.le_refl _, Nat.lt_succ_self _⟩) (Or.inr hp)
theorem Touch.ofBelow {m : Nat} {w w' : World} (h : Below m w w') : Touch m w.heap.size w w' := ⟨h.os, h.tape, h.output, h.size, fun k hk ho => h.block k (by omega)⟩
end Go.Proofs.Ytmaagbnjpdijnaa

namespace Go.Proofs.Ytmaagbnjpdijnaa
open Go.RowKit Go.Deep

section
variable (δ : Nat) (sv mv tv ov gv lv pv : Value) (Ss : List Sh) (Ms : List Md) (Ts : List Tm) (B : Bk) (FF : Nat → List ByteArray) (d t r : ByteArray) (w : World)

end
end Go.Proofs.Ytmaagbnjpdijnaa

namespace Go.Proofs.Ytmaagbnjpdijnaa
open Go.RowKit Go.Deep
section
variable (sv mv tv ov gv lv pv : Value) (Ss : List Sh) (Ms : List Md) (Ts : List Tm) (B : Bk) (FF : Nat → List ByteArray) (d t r : ByteArray) (w : World)

end
end Go.Proofs.Ytmaagbnjpdijnaa

namespace Go.Proofs.Ytmaagbnjpdijnaa
open Go.RowKit Go.Deep

end Go.Proofs.Ytmaagbnjpdijnaa

namespace Go.Proofs.Ytmaagbnjpdijnaa
open Go.RowKit Go.Deep

/-- a book of one's own that lies apart from block x -/
def OwnOff (x lo hi : Nat) (w : World) (ov gv lv pv : Value) (B : Bk) : Prop :=
  ∃ o0 o1 g0 g1 l0 l1 p0 p1 : Nat, ApartB lo hi o0 o1 g0 g1 l0 l1 p0 p1 ∧ ((o1 ≤ x ∨ x < o0) ∧ (g1 ≤ x ∨ x < g0) ∧ (l1 ≤ x ∨ x < l0) ∧ (p1 ≤ x ∨ x < p0)) ∧ ObsOwn o0 o1 w ov B.os ∧ GrsOwn g0 g1 w gv B.gs ∧ LesOwn l0 l1 w lv B.ls ∧ PusOwn p0 p1 w pv B.ps
theorem OwnOff.own {x lo hi : Nat} {w : World} {ov gv lv pv : Value} {B : Bk} (h : OwnOff x lo hi w ov gv lv pv B) : BookOwn lo hi w ov gv lv pv B := by
  obtain ⟨o0, o1, g0, g1, l0, l1, p0, p1, ha, -, hO, hG, hL, hP⟩ := h
  exact ⟨o0, o1, g0, g1, l0, l1, p0, p1, ha, hO, hG, hL, hP⟩
theorem OwnOff.below {x lo hi : Nat} {w w' : World} {ov gv lv pv : Value} {B : Bk} (h : OwnOff x lo hi w ov gv lv pv B) (hb : Below w.heap.size w w') : OwnOff x lo hi w' ov gv lv pv B := by
  obtain ⟨o0, o1, g0, g1, l0, l1, p0, p1, ha, hx, hO, hG, hL, hP⟩ := h
  exact ⟨o0, o1, g0, g1, l0, l1, p0, p1, ha, hx, hO.below hb, hG.below hb, hL.below hb, hP.below hb⟩
theorem OwnOff.set {x lo hi : Nat} {w : World} {ov gv lv pv : Value} {B : Bk} (h : OwnOff x lo hi w ov gv lv pv B) (i : Nat) (u : Value) : OwnOff x lo hi (w.setCell ⟨x, i, none⟩ u) ov gv lv pv B := by
  obtain ⟨o0, o1, g0, g1, l0, l1, p0, p1, ha, ⟨x1, x2, x3, x4⟩, hO, hG, hL, hP⟩ := h
  have ht : Touch x (x + 1) w (w.setCell ⟨x, i, none⟩ u) := Touch.setCell x (x + 1) w _ u ⟨Nat.le_refl _, Nat.lt_succ_self _⟩
  exact ⟨o0, o1, g0, g1, l0, l1, p0, p1, ha, ⟨x1, x2, x3, x4⟩, hO.touch ht (by omega), hG.touch ht (by omega), hL.touch ht (by omega), hP.touch ht (by omega)⟩
end Go.Proofs.Ytmaagbnjpdijnaa

