import Derived.Test.YtckdcejbojhlcaaD4
import Derived.Deep.RegionHeld3
import Derived.Deep.DeepCutAuto
namespace Go.Proofs.Ytckdcejbojhlcaa
open Go.RowKit Go.Deep

theorem goalV_len (Ss : List Sh) (kind : ByteArray) (V : List ByteArray) : (goalV Ss kind V).length = V.length := by
  cases h : okShapeOf Ss kind with
  | none => rw [goalV_none h]
  | some x =>
    by_cases hl : x.fields.length = V.length
    · rw [goalV_eq h hl, fillV_len hl]
    · rw [goalV_ne h hl]

/-- a variable of its own block: what its cells hold -/
structure Box (w : World) (β : Nat) (cs : Array Value) : Prop where
  lt : β < w.heap.size
  cell : ∀ i, w.cell? ⟨β, i, none⟩ = cs[i]?
  free : ∀ i, w.frozen? ⟨β, i, none⟩ = false

theorem Box.new (X : World) (cs : Array Value) (t : TypeId) (β : Nat) (h : X.heap.size = β) : Box (X.alloc (.cells cs t)) β cs := ⟨by subst h; simp, fun i => new_cell _ _ _ _ _ h, fun i => new_free _ _ _ _ _ h⟩
theorem Box.below {w w' : World} {β B : Nat} {cs : Array Value} (h : Box w β cs) (hb : Below B w w') (hB : β < B) : Box w' β cs :=
  ⟨Nat.lt_of_lt_of_le h.lt hb.size, fun i => by rw [hb.cell (p := ⟨β, i, none⟩) hB]; exact h.cell i, fun i => by rw [hb.frozen (p := ⟨β, i, none⟩) hB]; exact h.free i⟩
theorem Box.on {w w' : World} {β : Nat} {cs : Array Value} (h : Box w β cs) (hb : Below w.heap.size w w') : Box w' β cs := h.below hb h.lt
theorem Box.drew {w : World} {β : Nat} {cs : Array Value} (h : Box w β cs) : Box w.drew β cs := ⟨h.lt, h.cell, h.free⟩
theorem Box.touch {w w' : World} {β lo hi : Nat} {cs : Array Value} (h : Box w β cs) (hb : Touch lo hi w w') (ho : β < lo ∨ hi ≤ β) : Box w' β cs :=
  ⟨Nat.lt_of_lt_of_le h.lt hb.size, fun i => by rw [hb.cell (p := ⟨β, i, none⟩) h.lt ho]; exact h.cell i, fun i => by rw [hb.frozen (p := ⟨β, i, none⟩) h.lt ho]; exact h.free i⟩
theorem Box.set {w : World} {β k : Nat} {cs : Array Value} (h : Box w β cs) (u : Value) (hk : k < cs.size) : Box (w.setCell ⟨β, k, none⟩ u) β (cs.set k u) := by
  refine ⟨by simpa [World.setCell] using h.lt, fun i => ?_, fun i => by rw [World.frozen?_setCell]; exact h.free i⟩
  rw [Array.getElem?_set]
  by_cases hi : k = i
  · subst hi
    rw [if_pos rfl]
    have : (w.cell? ⟨β, k, none⟩) = some cs[k] := by rw [h.cell]; simp
    exact World.cell?_setCell_same' _ _ _ (by rw [this]; rfl)
  · rw [if_neg hi, cell_set_ne0 _ _ _ _ _ hi]; exact h.cell i
theorem Box.setFar {w : World} {β : Nat} {cs : Array Value} (h : Box w β cs) {p : Addr} (hp : p.block ≠ β) (u : Value) : Box (w.setCell p u) β cs :=
  ⟨by simpa [World.setCell] using h.lt, fun i => by rw [World.cell?_setCell_far _ _ _ _ hp]; exact h.cell i, fun i => by rw [World.frozen?_setCell]; exact h.free i⟩

/-- the cells of a block are as they were, and what was there ahead of the call -/
abbrev Held (w : World) (cs : Array Value) (W : World) : Prop := (∀ i, W.cell? ⟨w.heap.size, i, none⟩ = cs[i]?) ∧ w.heap.size < W.heap.size ∧ Hid (Below w.heap.size w W ∧ ∀ i, W.frozen? ⟨w.heap.size, i, none⟩ = false)
theorem Held.box {w W : World} {cs : Array Value} (h : Held w cs W) : Box W w.heap.size cs := ⟨h.2.1, h.1, h.2.2.out.2⟩
theorem Held.mk' {w W : World} {cs : Array Value} (h : Box W w.heap.size cs) (hb : Below w.heap.size w W) : Held w cs W := ⟨h.cell, h.lt, hb, h.free⟩
theorem Held.shs {w W : World} {cs : Array Value} (h : Held w cs W) {lo : Nat} {v : Value} {Ss : List Sh} (hs : ShsAt lo w v Ss) : ShsAt lo W v Ss := hs.below h.2.2.out.1
theorem Held.strs {w W : World} {cs : Array Value} (h : Held w cs W) {v : Value} {L : List ByteArray} (hs : StrsAt w v L) : StrsAt W v L := hs.below h.2.2.out.1
theorem Held.drew {w W : World} {cs : Array Value} (h : Box W w.heap.size cs) (hb : Below w.heap.size w W) : Held w cs W.drew := Held.mk' ⟨h.lt, h.cell, h.free⟩ hb.drew
theorem Held.on {w W W' : World} {cs : Array Value} (h : Held w cs W) (hb : Below W.heap.size W W') : Held w cs W' := Held.mk' (h.box.on hb) (h.2.2.out.1.trans (hb.mono h.2.2.out.1.size))
theorem Held.alloc {w W : World} {cs : Array Value} (h : Held w cs W) (o : Obj) : Held w cs (W.alloc o) := h.on ((Below.refl _ _).alloc (Nat.le_refl _) _)
theorem Held.set {w W : World} {cs : Array Value} {p : Addr} (h : Held w cs W) (hp : w.heap.size < p.block) (u : Value) : Held w cs (W.setCell p u) := Held.mk' (h.box.setFar (by omega) _) (h.2.2.out.1.setCell (by omega) _)

theorem below_al {X Y : World} {o : Obj} (h : Below (X.alloc o).heap.size (X.alloc o) Y) : Below X.heap.size X Y := ((Below.refl _ _).alloc (Nat.le_refl _) _).trans (h.mono (by simp))
theorem al_below {X Y : World} (h : Below X.heap.size X Y) (o : Obj) : Below X.heap.size X (Y.alloc o) := h.alloc h.size o
theorem one_al (X : World) (o : Obj) : Below X.heap.size X (X.alloc o) := (Below.refl _ _).alloc (Nat.le_refl _) _
theorem Held.swap {w W : World} {cs : Array Value} {o : Obj} (h : Held w cs (W.alloc o)) (hl : w.heap.size < W.heap.size) (o' : Obj) : Held w cs (W.alloc o') := by
  have hb := h.2.2.out.1
  exact Held.alloc (Held.mk' ⟨hl, fun i => ((one_al W o).cell (p := ⟨w.heap.size, i, none⟩) hl).symm.trans (h.1 i), fun i => ((one_al W o).frozen (p := ⟨w.heap.size, i, none⟩) hl).symm.trans (h.2.2.out.2 i)⟩ ⟨hb.os, hb.tape, hb.output, by omega, fun k hk => (Below.heap_alloc W o k (by omega)).symm.trans (hb.block k hk)⟩) _

/-- a variable that holds an answer, whose two lists lie in memory -/
def AnsAt (w : World) (β : Nat) (kind nm team : ByteArray) (en : Bool) (ver : Int) (G Ho : List ByteArray) : Prop :=
  ∃ a5 cap5 a6 cap6, Box w β #[.string kind, .string nm, .string team, .slice a5 G.length cap5, .bool en, .slice a6 Ho.length cap6, .int .i64 ver] ∧ StrsOwn 0 w.heap.size w (.slice a5 G.length cap5) G ∧ StrsOwn 0 w.heap.size w (.slice a6 Ho.length cap6) Ho
theorem bt {a b c : World} (h : Below a.heap.size a b) (k : Below b.heap.size b c) : Below a.heap.size a c := h.trans (k.mono h.size)
theorem drew_on {X Y : World} (h : Below X.drew.heap.size X.drew Y) : Below X.heap.size X Y := ((Below.refl X.heap.size X).drew).trans (h.mono (Nat.le_refl _))
theorem al_drew_on {X Y : World} {o : Obj} (h : Below (X.alloc o).drew.heap.size (X.alloc o).drew Y) : Below X.heap.size X Y := below_al (drew_on h)

theorem ans_new {W : World} {lo mid : Nat} {a5 a6 : Option Addr} {cap5 cap6 : Nat} {G Ho : List ByteArray} (kind nm team : ByteArray) (en : Bool) (ver : Int) (h5 : StrsOwn lo mid W (.slice a5 G.length cap5) G) (h6 : StrsOwn mid W.heap.size W (.slice a6 Ho.length cap6) Ho) (hm : mid ≤ W.heap.size) :
    AnsAt (W.alloc (.cells #[.string kind, .string nm, .string team, .slice a5 G.length cap5, .bool en, .slice a6 Ho.length cap6, .int .i64 ver] 41)) W.heap.size kind nm team en ver G Ho :=
  ⟨a5, cap5, a6, cap6, Box.new _ _ _ _ rfl, (h5.below (one_al _ _)).wide (Nat.zero_le _) (by simp; omega), (h6.below (one_al _ _)).wide (Nat.zero_le _) (by simp)⟩

theorem ans_set {W : World} {β lo mid : Nat} {a5 a6 : Option Addr} {cap5 cap6 : Nat} {G Ho : List ByteArray} (kind nm team : ByteArray) (en : Bool) (ver : Int) {d0 d1 d2 d3 d4 d5 d6 : Value} (hx : Box W β #[d0, d1, d2, d3, d4, d5, d6]) (h5 : StrsOwn lo mid W (.slice a5 G.length cap5) G) (h6 : StrsOwn mid W.heap.size W (.slice a6 Ho.length cap6) Ho) (hb : β < lo) (hl : lo ≤ mid) (hm : mid ≤ W.heap.size) :
    AnsAt (((((((W.setCell ⟨β, 0, none⟩ (.string kind)).setCell ⟨β, 1, none⟩ (.string nm)).setCell ⟨β, 2, none⟩ (.string team)).setCell ⟨β, 3, none⟩ (.slice a5 G.length cap5)).setCell ⟨β, 4, none⟩ (.bool en)).setCell ⟨β, 5, none⟩ (.slice a6 Ho.length cap6)).setCell ⟨β, 6, none⟩ (.int .i64 ver)) β kind nm team en ver G Ho := by
  refine ⟨a5, cap5, a6, cap6, ((((((hx.set (k := 0) _ (by simp)).set (k := 1) _ (by simp)).set (k := 2) _ (by simp)).set (k := 3) _ (by simp)).set (k := 4) _ (by simp)).set (k := 5) _ (by simp)).set (k := 6) _ (by simp), ?_, ?_⟩
  · refine StrsOwn.wide (lo := lo) (hi := mid) ?_ (Nat.zero_le _) (by simp only [World.setCell, Array.size_modify]; omega)
    repeat (refine StrsOwn.setCell ?_ (by simpa using hb) _)
    exact h5
  · refine StrsOwn.wide (lo := mid) (hi := W.heap.size) ?_ (Nat.zero_le _) (by simp only [World.setCell, Array.size_modify]; omega)
    repeat (refine StrsOwn.setCell ?_ (by simp only []; omega) _)
    exact h6
theorem below_set7 {W X : World} {β B : Nat} {c0 c1 c2 c3 c4 c5 c6 : Value} (h : Below B X W) (hb : B ≤ β) :
    Below B X (((((((W.setCell ⟨β, 0, none⟩ c0).setCell ⟨β, 1, none⟩ c1).setCell ⟨β, 2, none⟩ c2).setCell ⟨β, 3, none⟩ c3).setCell ⟨β, 4, none⟩ c4).setCell ⟨β, 5, none⟩ c5).setCell ⟨β, 6, none⟩ c6) := by
  repeat (refine Below.setCell ?_ (by simpa using hb) _)
  exact h
theorem ShsW.below {lo hi : Nat} {w w' : World} {v : Value} {n : Nat} (h : ShsW lo hi w v n) (hb : Below w.heap.size w w') : ShsW lo hi w' v n := by
  rcases h with h | ⟨b, off, cap, m, h1, h2, h3, h4, h5, h6, h7, h8, h9⟩
  · exact Or.inl h
  · exact Or.inr ⟨b, off, cap, m, h1, h2, h3, h4, h5, h6, h7, h8, h9.below hb⟩

/-- two variables' cells are as they were, and what was there when the region began -/
abbrev Held2 (W0 : World) (b1 : Nat) (cs1 : Array Value) (b2 : Nat) (cs2 : Array Value) (W : World) : Prop :=
  (∀ i, W.cell? ⟨b1, i, none⟩ = cs1[i]?) ∧ (∀ i, W.cell? ⟨b2, i, none⟩ = cs2[i]?) ∧ Hid (Below W0.heap.size W0 W ∧ b1 < W0.heap.size ∧ b2 < W0.heap.size)
theorem Held2.drew {W0 : World} {b1 b2 : Nat} {cs1 cs2 : Array Value} (h1 : Box W0 b1 cs1) (h2 : Box W0 b2 cs2) : Held2 W0 b1 cs1 b2 cs2 W0.drew := ⟨h1.cell, h2.cell, (Below.refl _ _).drew, h1.lt, h2.lt⟩
theorem Held2.on {W0 W W' : World} {b1 b2 : Nat} {cs1 cs2 : Array Value} (h : Held2 W0 b1 cs1 b2 cs2 W) (hb : Below W.heap.size W W') : Held2 W0 b1 cs1 b2 cs2 W' := by
  obtain ⟨h1, h2, h3, h4, h5⟩ := h
  have := h3.size
  exact ⟨fun i => (hb.cell (p := ⟨b1, i, none⟩) (by simp only []; omega)).trans (h1 i), fun i => (hb.cell (p := ⟨b2, i, none⟩) (by simp only []; omega)).trans (h2 i), bt h3 hb, h4, h5⟩
theorem Held2.base {W0 W : World} {b1 b2 : Nat} {cs1 cs2 : Array Value} (h : Held2 W0 b1 cs1 b2 cs2 W) : Below W0.heap.size W0 W := h.2.2.out.1
end Go.Proofs.Ytckdcejbojhlcaa
