import Derived.Test.YtdeammfdkaomlaaGreatV18
import Derived.Test.YtdeammfdkaomlaaGreatV19
import Derived.RangeFuncNested
import Derived.RangeFuncBound
import Derived.RangeFuncCalls
import Derived.RangeFuncLeaves
import Derived.Shelf.Abstract
import Derived.Shelf.RegionOpen
import Derived.WalkKit
import Derived.OwnWalkIn
import Derived.TacticsInMore
import Derived.LoopNIn
import Derived.LoopIn
import Derived.RangeFuncWrites
import Derived.Maps.OwnIn
namespace Go.Proofs.YtdeammfdkaomlaaGreat
open Go.RowKit Go.Deep Go.Shelf

attribute [local go_sem] Oper.semAt_some

/-- WHAT A LOOP'S BODY KEEPS: all cells, and all that lay below B, but for the blocks of S. -/
structure KeepsBut (S : Nat → Prop) (B : Nat) (W W' : World) : Prop where
  os : W'.os = W.os
  tape : W'.tape = W.tape
  output : W'.output = W.output
  size : W.heap.size ≤ W'.heap.size
  same : ∀ k o, W.heap[k]? = some o → ¬ S k → (o.isCells = true ∨ k < B) → W'.heap[k]? = some o
theorem KeepsBut.refl (S : Nat → Prop) (B : Nat) (W : World) : KeepsBut S B W W := ⟨rfl, rfl, rfl, Nat.le_refl _, fun _ _ h _ _ => h⟩
theorem KeepsBut.trans {S : Nat → Prop} {B : Nat} {W W' W'' : World} (h : KeepsBut S B W W') (k : KeepsBut S B W' W'') : KeepsBut S B W W'' :=
  ⟨k.os.trans h.os, k.tape.trans h.tape, k.output.trans h.output, Nat.le_trans h.size k.size, fun i o hi hs ho => k.same i o (h.same i o hi hs ho) hs ho⟩
theorem KeepsBut.put {S : Nat → Prop} {w : World} (W : World) (l : Nat) (o o' : Obj) (hl : w.heap.size ≤ l) (h : W.heap[l]? = some o) (hc : o.isCells = false) (_ : o.isWalk = false) : KeepsBut S w.heap.size W (W.putObj l o') := by
  have hg := grownBy_putObj' W l o'
  refine ⟨hg.os, hg.tape, hg.output, hg.size, fun k x hk _ hx => ?_⟩
  by_cases e : k = l
  · subst e
    rw [h] at hk
    cases hk
    rcases hx with hx | hx
    · rw [hc] at hx; cases hx
    · omega
  · rw [hg.block k (Array.getElem?_eq_some_iff.1 hk).1 (fun e' => e (Option.some.inj e'))]
    exact hk
theorem KeepsBut.below {S : Nat → Prop} {B m : Nat} {W W' : World} (h : KeepsBut S B W W') (hm : m ≤ W.heap.size) (hS : ∀ k, k < m → ¬ S k) (hB : m ≤ B) : Below m W W' := by
  refine ⟨h.os, h.tape, h.output, h.size, fun k hk => ?_⟩
  have hlt : k < W.heap.size := Nat.lt_of_lt_of_le hk hm
  rw [Array.getElem?_eq_getElem hlt]
  exact h.same k _ (Array.getElem?_eq_getElem hlt) (hS k hk) (Or.inr (Nat.lt_of_lt_of_le hk hB))
theorem KeepsBut.cell {S : Nat → Prop} {B : Nat} {W W' : World} {p : Addr} {v : Value} (h : KeepsBut S B W W') (hc : W.cell? p = some v) (hS : ¬ S p.block) : W'.cell? p = some v := by
  obtain ⟨o, ho, hc'⟩ := cells_of_cell hc
  exact (World.cell?_of_block ((h.same _ o ho hS (Or.inl hc')).trans ho.symm)).trans hc
theorem KeepsBut.set {S : Nat → Prop} {B : Nat} (W : World) (p : Addr) (u : Value) (hS : S p.block) : KeepsBut S B W (W.setCell p u) := by
  refine ⟨rfl, rfl, rfl, by simp [World.setCell], fun k o hk hs _ => ?_⟩
  rw [Below.heap_setCell W p u k (fun e => hs (e ▸ hS))]
  exact hk

end Go.Proofs.YtdeammfdkaomlaaGreat
namespace Go.Proofs.YtdeammfdkaomlaaGreat
open Go.RowKit Go.Deep Go.Maps

/-- a team, a resource, and how much -/
abbrev Tri := ByteArray × ByteArray × Int
/-- what stands at a key -/
def ksum (T : List Tri) (a b : ByteArray) : Int := (T.map fun p => if (p.1 = a ∧ p.2.1 = b) then p.2.2 else 0).sum
/-- a map that has the sums of a list -/
structure SumOk {H : Type} (T : List Tri) (D : DataW H) : Prop where
  isMap : IsMap D
  sums : ∀ a b : ByteArray, a.size ≤ maxLen → b.size ≤ maxLen → D.atKey (accL a b) (.lit (.int .i64 0)) = .lit (.int .i64 (wrap64 (ksum T a b)))
  has : ∀ p ∈ T, Maps.has D (accL p.1 p.2.1) = true
theorem SumOk.start {H : Type} : SumOk [] (.map [] : DataW H) := ⟨⟨[], rfl⟩, fun a b _ _ => by simp [ksum, wrap64]; rfl, fun p hp => by cases hp⟩
end Go.Proofs.YtdeammfdkaomlaaGreat
namespace Go.Proofs.YtdeammfdkaomlaaGreat
open Go.RowKit Go.Deep Go.Shelf Go.Maps

attribute [local go_sem] Oper.semAt_some

theorem Box.of_block {w w' : World} {β : Nat} {cs : Array Value} (h : Box w β cs) (e : w'.heap[β]? = w.heap[β]?) : Box w' β cs :=
  ⟨by have := h.lt; rw [Array.getElem?_eq_getElem this] at e; exact (Array.getElem?_eq_some_iff.1 e).1, fun i => (World.cell?_of_block (a := ⟨β, i, none⟩) e).trans (h.cell i), fun i => (World.frozen?_of_block (a := ⟨β, i, none⟩) e).trans (h.free i)⟩

end Go.Proofs.YtdeammfdkaomlaaGreat
