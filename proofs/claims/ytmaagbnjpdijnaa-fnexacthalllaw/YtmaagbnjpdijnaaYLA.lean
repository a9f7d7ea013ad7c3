import Derived.Test.YtmaagbnjpdijnaaYNN
import Derived.Test.YtmaagbnjpdijnaaYTA
import Derived.Test.YtmaagbnjpdijnaaYDA
import Derived.RangeFuncNested
import Derived.RangeFuncBound
import Derived.RangeFuncCalls
import Derived.RangeFuncLeaves
import Derived.Shelf.Abstract
import Derived.Shelf.RegionOpen
import Derived.WalkKit
import Derived.OwnWalkIn
import Derived.TacticsInMore
import Derived.LoopNIn
import Derived.LoopIn
import Derived.Test.YtmaagbnjpdijnaaYA1
import Derived.Deep.OwnRows
import Derived.Maps.Own
import Derived.Maps.Views
import Derived.WideKeyEntry
import Derived.DeepKeys4
import Derived.Maps.RangeWalk
import Derived.Maps.OwnOps
import Derived.Test.YtmaagbnjpdijnaaYB1
import Derived.Test.YtmaagbnjpdijnaaYP1
namespace Go.Proofs.Ytmaagbnjpdijnaa
open Go.RowKit Go.Deep

theorem ShsAt.set' {lo : Nat} {w : World} {v : Value} {Ss : List Sh} (h : ShsAt lo w v Ss) {p : Addr} (hp : p.block < lo) (u : Value) : ShsAt lo (w.setCell p u) v Ss := by
  rcases h with h | ⟨b, off, cap, h1, h2, h3, h4, h5, h7⟩
  · exact Or.inl h
  · refine Or.inr ⟨b, off, cap, h1, h2, h3, by simpa [World.setCell] using h4, h5, fun i hi => ?_⟩
    obtain ⟨hs, fv, c0, c1, hF⟩ := h7 i hi
    exact ⟨hs, fv, by rw [cell_setCell_ne _ _ _ _ (by simp only []; omega)]; exact c0, by rw [cell_setCell_ne _ _ _ _ (by simp only []; omega)]; exact c1, hF.setCell hp u⟩

/-- a law in memory, all of it above lo -/
structure LawAt (lo : Nat) (w : World) (sv mv tv : Value) (Ss : List Sh) (Ms : List Md) (Ts : List Tm) : Prop where
  shs : ShsAt lo w sv Ss
  mds : MdsAt lo w mv Ms
  tms : TmsAt lo w tv Ts
theorem LawAt.below {lo : Nat} {w w' : World} {sv mv tv : Value} {Ss : List Sh} {Ms : List Md} {Ts : List Tm} (h : LawAt lo w sv mv tv Ss Ms Ts) (hb : Below w.heap.size w w') : LawAt lo w' sv mv tv Ss Ms Ts :=
  ⟨h.shs.below hb, h.mds.below hb, h.tms.below hb⟩
theorem LawAt.mono {lo lo' : Nat} {w : World} {sv mv tv : Value} {Ss : List Sh} {Ms : List Md} {Ts : List Tm} (h : LawAt lo w sv mv tv Ss Ms Ts) (hl : lo' ≤ lo) : LawAt lo' w sv mv tv Ss Ms Ts :=
  ⟨h.shs.mono hl, h.mds.mono hl, h.tms.mono hl⟩
section
variable (lo : Nat) (sv mv tv : Value) (Ss : List Sh) (Ms : List Md) (Ts : List Tm) (w : World)

end
end Go.Proofs.Ytmaagbnjpdijnaa

namespace Go.Proofs.Ytmaagbnjpdijnaa
open Go.RowKit Go.Deep

section
variable (lo : Nat) (sv mv tv : Value) (Ss : List Sh) (Ms : List Md) (Ts : List Tm) (kind nm team : ByteArray) (vv hv : Value) (en : Bool) (ver : Int) (V Ho : List ByteArray) (r : ByteArray) (w : World)

end
end Go.Proofs.Ytmaagbnjpdijnaa

namespace Go.Proofs.Ytmaagbnjpdijnaa
open Go.RowKit Go.Deep Go.Shelf

attribute [local go_sem] Oper.semAt_some

/-- WHAT A LOOP'S BODY KEEPS: all cells, and all that lay below B, but for the blocks of S. -/
structure KeepsBut (S : Nat → Prop) (B : Nat) (W W' : World) : Prop where
  os : W'.os = W.os
  tape : W'.tape = W.tape
  output : W'.output = W.output
  size : W.heap.size ≤ W'.heap.size
  same : ∀ k o, W.heap[k]? = some o → ¬ S k → (o.isCells = true ∨ k < B) → W'.heap[k]? = some o
theorem KeepsBut.refl (S : Nat → Prop) (B : Nat) (W : World) : KeepsBut S B W W := ⟨rfl, rfl, rfl, Nat.le_refl _, fun _ _ h _ _ => h⟩
theorem KeepsBut.trans {S : Nat → Prop} {B : Nat} {W W' W'' : World} (h : KeepsBut S B W W') (k : KeepsBut S B W' W'') : KeepsBut S B W W'' :=
  ⟨k.os.trans h.os, k.tape.trans h.tape, k.output.trans h.output, Nat.le_trans h.size k.size, fun i o hi hs ho => k.same i o (h.same i o hi hs ho) hs ho⟩
theorem KeepsBut.put {S : Nat → Prop} {w : World} (W : World) (l : Nat) (o o' : Obj) (hl : w.heap.size ≤ l) (h : W.heap[l]? = some o) (hc : o.isCells = false) (_ : o.isWalk = false) : KeepsBut S w.heap.size W (W.putObj l o') := by
  have hg := grownBy_putObj' W l o'
  refine ⟨hg.os, hg.tape, hg.output, hg.size, fun k x hk _ hx => ?_⟩
  by_cases e : k = l
  · subst e
    rw [h] at hk
    cases hk
    rcases hx with hx | hx
    · rw [hc] at hx; cases hx
    · omega
  · rw [hg.block k (Array.getElem?_eq_some_iff.1 hk).1 (fun e' => e (Option.some.inj e'))]
    exact hk
theorem KeepsBut.below {S : Nat → Prop} {B m : Nat} {W W' : World} (h : KeepsBut S B W W') (hm : m ≤ W.heap.size) (hS : ∀ k, k < m → ¬ S k) (hB : m ≤ B) : Below m W W' := by
  refine ⟨h.os, h.tape, h.output, h.size, fun k hk => ?_⟩
  have hlt : k < W.heap.size := Nat.lt_of_lt_of_le hk hm
  rw [Array.getElem?_eq_getElem hlt]
  exact h.same k _ (Array.getElem?_eq_getElem hlt) (hS k hk) (Or.inr (Nat.lt_of_lt_of_le hk hB))
theorem KeepsBut.cell {S : Nat → Prop} {B : Nat} {W W' : World} {p : Addr} {v : Value} (h : KeepsBut S B W W') (hc : W.cell? p = some v) (hS : ¬ S p.block) : W'.cell? p = some v := by
  obtain ⟨o, ho, hc'⟩ := cells_of_cell hc
  exact (World.cell?_of_block ((h.same _ o ho hS (Or.inl hc')).trans ho.symm)).trans hc
theorem KeepsBut.set {S : Nat → Prop} {B : Nat} (W : World) (p : Addr) (u : Value) (hS : S p.block) : KeepsBut S B W (W.setCell p u) := by
  refine ⟨rfl, rfl, rfl, by simp [World.setCell], fun k o hk hs _ => ?_⟩
  rw [Below.heap_setCell W p u k (fun e => hs (e ▸ hS))]
  exact hk

section
variable (lo : Nat) (sv : Value) (Ss : List Sh) (kind nm team : ByteArray) (vv hv : Value) (en : Bool) (ver : Int) (V Ho : List ByteArray) (w : World)

end
end Go.Proofs.Ytmaagbnjpdijnaa

namespace Go.Proofs.Ytmaagbnjpdijnaa
open Go.RowKit Go.Deep Go.Maps Go.ChangeMaps Go.MapKept
open Go.WideElems (Fit)

end Go.Proofs.Ytmaagbnjpdijnaa

namespace Go.Proofs.Ytmaagbnjpdijnaa
open Go.RowKit Go.Deep Go.Maps Go.ChangeMaps Go.MapKept

def accL (a b : ByteArray) : Lit := .string (keyBytes [.string a.data.toList, .string b.data.toList])
/-- a struct of two texts, as a map's key -/
structure TwoKey (P : Program) (k s : TypeId) : Prop where
  ex : ∃ f0 f1 : Field, P.underlying k = some (.struct #[f0, f1]) ∧ f0.type = s ∧ f1.type = s ∧ f0.offset = 0 ∧ f1.offset = 1 ∧ f0.name ≠ "_" ∧ f1.name ≠ "_"
  ty : P.keyType k = true
  cs : P.cellsOf k = 2
  st : P.underlying s = some .string
  one : P.cellsOf s = 1
  sz : 0 < P.types.size
theorem TwoKey.mk' {P : Program} {k s : TypeId} (h : TwoKey P k s) {a b : ByteArray} (ha : a.size ≤ maxLen) (hb : b.size ≤ maxLen) : keyOf P k (.agg #[.string a, .string b]) = some (accL a b) := by
  obtain ⟨f0, f1, hu, h0, h1, o0, o1, n0, n1⟩ := h.ex
  obtain ⟨n, hn⟩ : ∃ n, P.types.size = n + 1 := ⟨P.types.size - 1, by have := h.sz; omega⟩
  simp [keyOf, hu, h.ty, Value.formed, h.cs, hn, Program.keyLits, h.st, h.one, Value.cells, ha, hb, accL, h0, h1, o0, o1, n0, n1]
theorem TwoKey.wide {P : Program} {k s : TypeId} (h : TwoKey P k s) : (match P.underlying k with | some (.array _ _) | some (.struct _) => true | _ => false) = true := by
  obtain ⟨f0, f1, hu, -⟩ := h.ex
  rw [hu]
theorem TwoKey.inj {P : Program} {k s : TypeId} (h : TwoKey P k s) (K : WideMaps.KeyLaw P k) {a b a' b' : ByteArray} (ha : a.size ≤ maxLen) (hb : b.size ≤ maxLen) (ha' : a'.size ≤ maxLen) (hb' : b'.size ≤ maxLen) (e : accL a b = accL a' b') : a = a' ∧ b = b' := by
  have e := K.inj (h.mk' ha hb) (e ▸ h.mk' ha' hb')
  simpa using e

end Go.Proofs.Ytmaagbnjpdijnaa

