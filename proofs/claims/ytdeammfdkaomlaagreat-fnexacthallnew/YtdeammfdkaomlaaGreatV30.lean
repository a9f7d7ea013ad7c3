import Derived.Test.YtdeammfdkaomlaaGreatV16
import Derived.Test.YtdeammfdkaomlaaGreatV22
import Derived.Test.YtdeammfdkaomlaaGreatV24
import Derived.Test.YtdeammfdkaomlaaGreatV27
import Derived.Test.YtdeammfdkaomlaaGreatV28
import Derived.Test.YtdeammfdkaomlaaGreatV29
import Derived.Maps.AppendAt
import Derived.ArgAppend
namespace Go.Proofs.YtdeammfdkaomlaaGreat
open Go.RowKit Go.Deep

/-- the parts of a book of one's own lie apart -/
structure ApartB (lo hi o0 o1 g0 g1 l0 l1 p0 p1 : Nat) : Prop where
  o : lo ≤ o0 ∧ o1 ≤ hi
  g : lo ≤ g0 ∧ g1 ≤ hi
  l : lo ≤ l0 ∧ l1 ≤ hi
  p : lo ≤ p0 ∧ p1 ≤ hi
  og : o1 ≤ g0 ∨ g1 ≤ o0
  ol : o1 ≤ l0 ∨ l1 ≤ o0
  op : o1 ≤ p0 ∨ p1 ≤ o0
  gl : g1 ≤ l0 ∨ l1 ≤ g0
  gp : g1 ≤ p0 ∨ p1 ≤ g0
  lp : l1 ≤ p0 ∨ p1 ≤ l0
/-- a book of one's own -/
def BookOwn (lo hi : Nat) (w : World) (ov gv lv pv : Value) (B : Bk) : Prop :=
  ∃ o0 o1 g0 g1 l0 l1 p0 p1 : Nat, ApartB lo hi o0 o1 g0 g1 l0 l1 p0 p1 ∧ ObsOwn o0 o1 w ov B.os ∧ GrsOwn g0 g1 w gv B.gs ∧ LesOwn l0 l1 w lv B.ls ∧ PusOwn p0 p1 w pv B.ps
theorem ObsOwn.low {lo hi lo' : Nat} {w : World} {v : Value} {Xl : List Ob} (h : ObsOwn lo hi w v Xl) (hl : lo' ≤ lo) : ObsAt lo' w v Xl := h.at.mono hl
theorem BookOwn.at {lo hi : Nat} {w : World} {ov gv lv pv : Value} {B : Bk} (h : BookOwn lo hi w ov gv lv pv B) : BookAt lo w ov gv lv pv B := by
  obtain ⟨_, _, _, _, _, _, _, _, ha, h1, h2, h3, h4⟩ := h
  exact ⟨h1.at.mono ha.o.1, h2.at.mono ha.g.1, h3.at.mono ha.l.1, h4.at.mono ha.p.1⟩
theorem BookOwn.below {lo hi : Nat} {w w' : World} {ov gv lv pv : Value} {B : Bk} (h : BookOwn lo hi w ov gv lv pv B) (hb : Below w.heap.size w w') : BookOwn lo hi w' ov gv lv pv B := by
  obtain ⟨o0, o1, g0, g1, l0, l1, p0, p1, ha, h1, h2, h3, h4⟩ := h
  exact ⟨o0, o1, g0, g1, l0, l1, p0, p1, ha, h1.below hb, h2.below hb, h3.below hb, h4.below hb⟩
theorem BookOwn.touch {lo hi lo' hi' : Nat} {w w' : World} {ov gv lv pv : Value} {B : Bk} (h : BookOwn lo hi w ov gv lv pv B) (ht : Touch lo' hi' w w') (ho : hi ≤ lo' ∨ hi' ≤ lo) : BookOwn lo hi w' ov gv lv pv B := by
  obtain ⟨o0, o1, g0, g1, l0, l1, p0, p1, ha, h1, h2, h3, h4⟩ := h
  have := ha.o
  have := ha.g
  have := ha.l
  have := ha.p
  exact ⟨o0, o1, g0, g1, l0, l1, p0, p1, ha, h1.touch ht (by omega), h2.touch ht (by omega), h3.touch ht (by omega), h4.touch ht (by omega)⟩
theorem BookOwn.wide {lo hi lo' hi' : Nat} {w : World} {ov gv lv pv : Value} {B : Bk} (h : BookOwn lo hi w ov gv lv pv B) (h1 : lo' ≤ lo) (h2 : hi ≤ hi') : BookOwn lo' hi' w ov gv lv pv B := by
  obtain ⟨o0, o1, g0, g1, l0, l1, p0, p1, ⟨q1, q2, q3, q4, r1, r2, r3, r4, r5, r6⟩, hh⟩ := h
  exact ⟨o0, o1, g0, g1, l0, l1, p0, p1, ⟨by omega, by omega, by omega, by omega, r1, r2, r3, r4, r5, r6⟩, hh⟩
end Go.Proofs.YtdeammfdkaomlaaGreat
namespace Go.Proofs.YtdeammfdkaomlaaGreat
open Go.RowKit Go.Deep

theorem ObsOwn.setLow {lo hi : Nat} {w : World} {v : Value} {Xl : List Ob} (h : ObsOwn lo hi w v Xl) {p : Addr} (hp : p.block < lo) (u : Value) : ObsOwn lo hi (w.setCell p u) v Xl := h.touch (Touch.setCell p.block (p.block + 1) w p u ⟨Nat.le_refl _, Nat.lt_succ_self _⟩) (Or.inr hp)
theorem GrsOwn.setLow {lo hi : Nat} {w : World} {v : Value} {Xl : List Gr} (h : GrsOwn lo hi w v Xl) {p : Addr} (hp : p.block < lo) (u : Value) : GrsOwn lo hi (w.setCell p u) v Xl := h.touch (Touch.setCell p.block (p.block + 1) w p u ⟨Nat.le_refl _, Nat.lt_succ_self _⟩) (Or.inr hp)
theorem LesOwn.setLow {lo hi : Nat} {w : World} {v : Value} {Xl : List Le} (h : LesOwn lo hi w v Xl) {p : Addr} (hp : p.block < lo) (u : Value) : LesOwn lo hi (w.setCell p u) v Xl := h.touch (Touch.setCell p.block (p.block + 1) w p u ⟨Nat.le_refl _, Nat.lt_succ_self _⟩) (Or.inr hp)
theorem PusOwn.setLow {lo hi : Nat} {w : World} {v : Value} {Xl : List Pu} (h : PusOwn lo hi w v Xl) {p : Addr} (hp : p.block < lo) (u : Value) : PusOwn lo hi (w.setCell p u) v Xl := h.touch (Touch.setCell p.block (p.block + 1) w p u ⟨Nat.le_refl _, Nat.lt_succ_self _⟩) (Or.inr hp)

end Go.Proofs.YtdeammfdkaomlaaGreat
namespace Go.Proofs.YtdeammfdkaomlaaGreat
open Go.RowKit Go.Deep

/-- the cells of a list, one thing behind the other -/
def flatV {X : Type} (f : X → List Value) : List X → List Value
  | [] => []
  | x :: r => f x ++ flatV f r
theorem flatV_len {X : Type} {f : X → List Value} {n : Nat} (h : ∀ x, (f x).length = n) : ∀ L : List X, (flatV f L).length = L.length * n
  | [] => by simp [flatV]
  | x :: r => by rw [flatV, List.length_append, h, flatV_len h r, List.length_cons, Nat.succ_mul, Nat.add_comm]
theorem flatV_get {X : Type} {f : X → List Value} {n : Nat} (h : ∀ x, (f x).length = n) : ∀ (L : List X) (i t : Nat) (hi : i < L.length), t < n → (flatV f L)[i * n + t]? = (f L[i])[t]?
  | [], i, t, hi, _ => by simp at hi
  | x :: r, 0, t, hi, ht => by
    rw [flatV, Nat.zero_mul, Nat.zero_add, List.getElem?_append_left (by rw [h]; exact ht)]
    rfl
  | x :: r, i + 1, t, hi, ht => by
    rw [flatV, List.getElem?_append_right (by rw [h, Nat.succ_mul]; omega), h, show (i + 1) * n + t - n = i * n + t by rw [Nat.succ_mul]; omega, flatV_get h r i t (by simpa using hi) ht]
    rfl
theorem flatV_app {X : Type} {f : X → List Value} : ∀ A B : List X, flatV f (A ++ B) = flatV f A ++ flatV f B
  | [], B => rfl
  | x :: r, B => by rw [List.cons_append, flatV, flatV, flatV_app r B, List.append_assoc]
/-- what a row that was made anew holds -/
theorem frozen_none {w : World} {g : Nat} {cur : Array Value} {e : TypeId} (h : w.heap[g]? = some (.cells cur e (0, 0))) (i : Nat) : w.frozen? ⟨g, i, none⟩ = false := by
  simp [World.frozen?, h]
theorem cell_heap {w : World} {g : Nat} {cur : Array Value} {e : TypeId} {fz : Nat × Nat} (h : w.heap[g]? = some (.cells cur e fz)) (i : Nat) : w.cell? ⟨g, i, none⟩ = cur[i]? := by
  simp [World.cell?, h]
end Go.Proofs.YtdeammfdkaomlaaGreat
