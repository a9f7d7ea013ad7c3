import Derived.Test.YtmaagbnjpdijnaaYOXm
import Derived.Test.YtmaagbnjpdijnaaYOWX
import Derived.Test.YtmaagbnjpdijnaaYBBL
import Derived.Test.YtmaagbnjpdijnaaYBOG
import Derived.Test.YtmaagbnjpdijnaaYM2
namespace Go.Proofs.Ytmaagbnjpdijnaa
open Go.RowKit Go.Deep

/-- the parts of a book of one's own lie apart -/
structure ApartB (lo hi o0 o1 g0 g1 l0 l1 p0 p1 : Nat) : Prop where
  o : lo ≤ o0 ∧ o1 ≤ hi
  g : lo ≤ g0 ∧ g1 ≤ hi
  l : lo ≤ l0 ∧ l1 ≤ hi
  p : lo ≤ p0 ∧ p1 ≤ hi
  og : o1 ≤ g0 ∨ g1 ≤ o0
  ol : o1 ≤ l0 ∨ l1 ≤ o0
  op : o1 ≤ p0 ∨ p1 ≤ o0
  gl : g1 ≤ l0 ∨ l1 ≤ g0
  gp : g1 ≤ p0 ∨ p1 ≤ g0
  lp : l1 ≤ p0 ∨ p1 ≤ l0
/-- a book of one's own -/
def BookOwn (lo hi : Nat) (w : World) (ov gv lv pv : Value) (B : Bk) : Prop :=
  ∃ o0 o1 g0 g1 l0 l1 p0 p1 : Nat, ApartB lo hi o0 o1 g0 g1 l0 l1 p0 p1 ∧ ObsOwn o0 o1 w ov B.os ∧ GrsOwn g0 g1 w gv B.gs ∧ LesOwn l0 l1 w lv B.ls ∧ PusOwn p0 p1 w pv B.ps
theorem ObsOwn.low {lo hi lo' : Nat} {w : World} {v : Value} {Xl : List Ob} (h : ObsOwn lo hi w v Xl) (hl : lo' ≤ lo) : ObsAt lo' w v Xl := h.at.mono hl
theorem BookOwn.at {lo hi : Nat} {w : World} {ov gv lv pv : Value} {B : Bk} (h : BookOwn lo hi w ov gv lv pv B) : BookAt lo w ov gv lv pv B := by
  obtain ⟨_, _, _, _, _, _, _, _, ha, h1, h2, h3, h4⟩ := h
  exact ⟨h1.at.mono ha.o.1, h2.at.mono ha.g.1, h3.at.mono ha.l.1, h4.at.mono ha.p.1⟩
theorem BookOwn.below {lo hi : Nat} {w w' : World} {ov gv lv pv : Value} {B : Bk} (h : BookOwn lo hi w ov gv lv pv B) (hb : Below w.heap.size w w') : BookOwn lo hi w' ov gv lv pv B := by
  obtain ⟨o0, o1, g0, g1, l0, l1, p0, p1, ha, h1, h2, h3, h4⟩ := h
  exact ⟨o0, o1, g0, g1, l0, l1, p0, p1, ha, h1.below hb, h2.below hb, h3.below hb, h4.below hb⟩
theorem BookOwn.touch {lo hi lo' hi' : Nat} {w w' : World} {ov gv lv pv : Value} {B : Bk} (h : BookOwn lo hi w ov gv lv pv B) (ht : Touch lo' hi' w w') (ho : hi ≤ lo' ∨ hi' ≤ lo) : BookOwn lo hi w' ov gv lv pv B := by
  obtain ⟨o0, o1, g0, g1, l0, l1, p0, p1, ha, h1, h2, h3, h4⟩ := h
  have := ha.o
  have := ha.g
  have := ha.l
  have := ha.p
  exact ⟨o0, o1, g0, g1, l0, l1, p0, p1, ha, h1.touch ht (by omega), h2.touch ht (by omega), h3.touch ht (by omega), h4.touch ht (by omega)⟩
theorem BookOwn.wide {lo hi lo' hi' : Nat} {w : World} {ov gv lv pv : Value} {B : Bk} (h : BookOwn lo hi w ov gv lv pv B) (h1 : lo' ≤ lo) (h2 : hi ≤ hi') : BookOwn lo' hi' w ov gv lv pv B := by
  obtain ⟨o0, o1, g0, g1, l0, l1, p0, p1, ⟨q1, q2, q3, q4, r1, r2, r3, r4, r5, r6⟩, hh⟩ := h
  exact ⟨o0, o1, g0, g1, l0, l1, p0, p1, ⟨by omega, by omega, by omega, by omega, r1, r2, r3, r4, r5, r6⟩, hh⟩
section
variable (lo hi : Nat) (ov gv lv pv : Value) (B : Bk) (w : World)

end
end Go.Proofs.Ytmaagbnjpdijnaa

