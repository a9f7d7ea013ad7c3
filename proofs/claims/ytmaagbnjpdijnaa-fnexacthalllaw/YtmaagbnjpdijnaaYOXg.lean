import Derived.Test.YtmaagbnjpdijnaaYOXt
import Derived.Test.YtmaagbnjpdijnaaYCLE
import Derived.Deep.AppendLies
import Derived.Test.YtmaagbnjpdijnaaYM2
import Derived.Test.YtmaagbnjpdijnaaYBOG
import Derived.Test.YtmaagbnjpdijnaaYOWX
namespace Go.Proofs.Ytmaagbnjpdijnaa
open Go.RowKit Go.Deep

theorem Touch.grown {w w' : World} {g : Nat} (h : w.grownBy w' (some g)) : Touch g (g + 1) w w' := ⟨h.os, h.tape, h.output, h.size, fun k hk ho => h.block k hk fun e => by have := Option.some.inj e; omega⟩
theorem Below.grown {w w' : World} (h : w.grownBy w' none) : Below w.heap.size w w' := ⟨h.os, h.tape, h.output, h.size, fun k hk => h.block k hk fun e => by cases e⟩
theorem Below.ownsB {base : Nat} {e : TypeId} {sz n : Nat} {W W' : World} {v : Value} {cs : List Value} (h : W.ownsRow base e sz v n cs) (hb : Below W.heap.size W W') : W'.ownsRow base e sz v n cs := by
  refine ⟨h.1, ?_⟩
  have hlt := fun g hg => ownsB_lt h (g := g) hg
  rcases h.2 with hv | ⟨g, cap, cur, hv, h1, h2, h3⟩
  · exact Or.inl hv
  · have hg := hlt g (by rw [hv]; rfl)
    exact Or.inr ⟨g, cap, cur, hv, h1, by rw [hb.block g hg.1]; exact h2, h3⟩
theorem Touch.ownsB {base lo hi : Nat} {e : TypeId} {sz n : Nat} {W W' : World} {v : Value} {cs : List Value} (h : W.ownsRow base e sz v n cs) (ht : Touch lo hi W W') (hh : hi ≤ base) : W'.ownsRow base e sz v n cs := by
  refine ⟨h.1, ?_⟩
  have hlt := fun g hg => ownsB_lt h (g := g) hg
  rcases h.2 with hv | ⟨g, cap, cur, hv, h1, h2, h3⟩
  · exact Or.inl hv
  · have hg := hlt g (by rw [hv]; rfl)
    exact Or.inr ⟨g, cap, cur, hv, h1, by rw [ht.block g hg.1 (by omega)]; exact h2, h3⟩
theorem ownsB_none {base : Nat} (W : World) (e : TypeId) (sz : Nat) : W.ownsRow base e sz (.slice none 0 0) 0 [] := ⟨by simp, Or.inl ⟨rfl, rfl⟩⟩
/-- the cells of parts with their inner lists -/
def Obcs (x : Ob × Value × Value) : List Value := [.string x.1.kd, .string x.1.nm, .string x.1.tm, x.2.1, .bool x.1.en, x.2.2, .int .i64 x.1.ver]
def Obgs : List (Ob × Value × Value) → List Value
  | [] => []
  | x :: L => Obcs x ++ Obgs L
structure ObGrow (base : Nat) (W : World) (v : Value) (L : List (Ob × Value × Value)) (c : Nat → Nat × Nat) : Prop where
  own : W.ownsRow base 128 7 v L.length (Obgs L)
  sz : ∀ i (h : i < L.length), ObSize L[i].1
  inn : ∀ i (h : i < L.length), ∃ m1 : Nat, (c i).1 ≤ m1 ∧ m1 ≤ (c i).2 ∧ StrsOwn (c i).1 m1 W L[i].2.1 L[i].1.vs ∧ StrsOwn m1 (c i).2 W L[i].2.2 L[i].1.hs
  seg : ∀ i, i < L.length → base ≤ (c i).1 ∧ (c i).2 ≤ W.heap.size ∧ ∀ g, v.ownBlock = some g → g < (c i).1 ∨ (c i).2 ≤ g
  mono : ∀ i j, i < j → j < L.length → (c i).2 ≤ (c j).1
theorem ObGrow.below {base : Nat} {W W' : World} {v : Value} {L : List (Ob × Value × Value)} {c : Nat → Nat × Nat} (h : ObGrow base W v L c) (hb : Below W.heap.size W W') : ObGrow base W' v L c :=
  ⟨Below.ownsB h.own hb, h.sz, fun i hi => by obtain ⟨m1, q0, q1, l0, l1⟩ := h.inn i hi; exact ⟨m1, q0, q1, l0.below hb, l1.below hb⟩, fun i hi => ⟨(h.seg i hi).1, Nat.le_trans (h.seg i hi).2.1 hb.size, (h.seg i hi).2.2⟩, h.mono⟩
theorem ObGrow.touch {base lo hi : Nat} {W W' : World} {v : Value} {L : List (Ob × Value × Value)} {c : Nat → Nat × Nat} (h : ObGrow base W v L c) (ht : Touch lo hi W W') (hh : hi ≤ base) : ObGrow base W' v L c :=
  ⟨Touch.ownsB h.own ht hh, h.sz, fun i hi => by have hsg := h.seg i hi; obtain ⟨m1, q0, q1, l0, l1⟩ := h.inn i hi; exact ⟨m1, q0, q1, l0.touch ht (by omega), l1.touch ht (by omega)⟩, fun i hi => ⟨(h.seg i hi).1, Nat.le_trans (h.seg i hi).2.1 ht.size, (h.seg i hi).2.2⟩, h.mono⟩
end Go.Proofs.Ytmaagbnjpdijnaa

namespace Go.Proofs.Ytmaagbnjpdijnaa
open Go.RowKit Go.Deep

/-- the cells of parts with their inner lists -/
def Grcs (x : Gr × Value) : List Value := [.int .i64 x.1.nu, .string x.1.tw, .string x.1.gb, x.2, .string x.1.kd, .string x.1.tm, .string x.1.pf]
def Grgs : List (Gr × Value) → List Value
  | [] => []
  | x :: L => Grcs x ++ Grgs L
structure GrGrow (base : Nat) (W : World) (v : Value) (L : List (Gr × Value)) (c : Nat → Nat × Nat) : Prop where
  own : W.ownsRow base 91 7 v L.length (Grgs L)
  sz : ∀ i (h : i < L.length), GrSize L[i].1
  inn : ∀ i (h : i < L.length), (c i).1 ≤ (c i).2 ∧ IntsOwn (c i).1 (c i).2 W L[i].2 L[i].1.vb
  seg : ∀ i, i < L.length → base ≤ (c i).1 ∧ (c i).2 ≤ W.heap.size ∧ ∀ g, v.ownBlock = some g → g < (c i).1 ∨ (c i).2 ≤ g
  mono : ∀ i j, i < j → j < L.length → (c i).2 ≤ (c j).1
theorem GrGrow.below {base : Nat} {W W' : World} {v : Value} {L : List (Gr × Value)} {c : Nat → Nat × Nat} (h : GrGrow base W v L c) (hb : Below W.heap.size W W') : GrGrow base W' v L c :=
  ⟨Below.ownsB h.own hb, h.sz, fun i hi => by obtain ⟨q0, l0⟩ := h.inn i hi; exact ⟨q0, l0.below hb⟩, fun i hi => ⟨(h.seg i hi).1, Nat.le_trans (h.seg i hi).2.1 hb.size, (h.seg i hi).2.2⟩, h.mono⟩
theorem GrGrow.touch {base lo hi : Nat} {W W' : World} {v : Value} {L : List (Gr × Value)} {c : Nat → Nat × Nat} (h : GrGrow base W v L c) (ht : Touch lo hi W W') (hh : hi ≤ base) : GrGrow base W' v L c :=
  ⟨Touch.ownsB h.own ht hh, h.sz, fun i hi => by have hsg := h.seg i hi; obtain ⟨q0, l0⟩ := h.inn i hi; exact ⟨q0, l0.touch ht (by omega)⟩, fun i hi => ⟨(h.seg i hi).1, Nat.le_trans (h.seg i hi).2.1 ht.size, (h.seg i hi).2.2⟩, h.mono⟩
end Go.Proofs.Ytmaagbnjpdijnaa

