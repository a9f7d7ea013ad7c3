import Derived.Test.YtckdcejbojhlcaaGreatDoorE5
namespace Go.Proofs.YtckdcejbojhlcaaGreatDoor
open Go.RowKit Go.Deep

theorem new_free (X : World) (cs : Array Value) (t : TypeId) (g i : Nat) (hg : X.heap.size = g) : (X.alloc (.cells cs t)).frozen? ⟨g, i, none⟩ = false := by subst hg; simp
theorem new_cell (X : World) (cs : Array Value) (t : TypeId) (g i : Nat) (hg : X.heap.size = g) : (X.alloc (.cells cs t)).cell? ⟨g, i, none⟩ = cs[i]? := by subst hg; simp
/-- a variable of its own block: what its cells hold -/
structure Box (w : World) (β : Nat) (cs : Array Value) : Prop where
  lt : β < w.heap.size
  cell : ∀ i, w.cell? ⟨β, i, none⟩ = cs[i]?
  free : ∀ i, w.frozen? ⟨β, i, none⟩ = false

theorem Box.new (X : World) (cs : Array Value) (t : TypeId) (β : Nat) (h : X.heap.size = β) : Box (X.alloc (.cells cs t)) β cs := ⟨by subst h; simp, fun i => new_cell _ _ _ _ _ h, fun i => new_free _ _ _ _ _ h⟩
theorem Box.below {w w' : World} {β B : Nat} {cs : Array Value} (h : Box w β cs) (hb : Below B w w') (hB : β < B) : Box w' β cs :=
  ⟨Nat.lt_of_lt_of_le h.lt hb.size, fun i => by rw [hb.cell (p := ⟨β, i, none⟩) hB]; exact h.cell i, fun i => by rw [hb.frozen (p := ⟨β, i, none⟩) hB]; exact h.free i⟩
theorem Box.on {w w' : World} {β : Nat} {cs : Array Value} (h : Box w β cs) (hb : Below w.heap.size w w') : Box w' β cs := h.below hb h.lt
theorem Box.drew {w : World} {β : Nat} {cs : Array Value} (h : Box w β cs) : Box w.drew β cs := ⟨h.lt, h.cell, h.free⟩
theorem Box.setFar {w : World} {β : Nat} {cs : Array Value} (h : Box w β cs) {p : Addr} (hp : p.block ≠ β) (u : Value) : Box (w.setCell p u) β cs :=
  ⟨by simpa [World.setCell] using h.lt, fun i => by rw [World.cell?_setCell_far _ _ _ _ hp]; exact h.cell i, fun i => by rw [World.frozen?_setCell]; exact h.free i⟩

/-- the cells of a block are as they were, and what was there ahead of the call -/
abbrev Held (w : World) (cs : Array Value) (W : World) : Prop := (∀ i, W.cell? ⟨w.heap.size, i, none⟩ = cs[i]?) ∧ w.heap.size < W.heap.size ∧ Hid (Below w.heap.size w W ∧ ∀ i, W.frozen? ⟨w.heap.size, i, none⟩ = false)
theorem Held.box {w W : World} {cs : Array Value} (h : Held w cs W) : Box W w.heap.size cs := ⟨h.2.1, h.1, h.2.2.out.2⟩
theorem Held.mk' {w W : World} {cs : Array Value} (h : Box W w.heap.size cs) (hb : Below w.heap.size w W) : Held w cs W := ⟨h.cell, h.lt, hb, h.free⟩
theorem Held.shs {w W : World} {cs : Array Value} (h : Held w cs W) {lo : Nat} {v : Value} {Ss : List Sh} (hs : ShsAt lo w v Ss) : ShsAt lo W v Ss := hs.below h.2.2.out.1
theorem Held.strs {w W : World} {cs : Array Value} (h : Held w cs W) {v : Value} {L : List ByteArray} (hs : StrsAt w v L) : StrsAt W v L := hs.below h.2.2.out.1
theorem Held.drew {w W : World} {cs : Array Value} (h : Box W w.heap.size cs) (hb : Below w.heap.size w W) : Held w cs W.drew := Held.mk' ⟨h.lt, h.cell, h.free⟩ hb.drew
theorem Held.on {w W W' : World} {cs : Array Value} (h : Held w cs W) (hb : Below W.heap.size W W') : Held w cs W' := Held.mk' (h.box.on hb) (h.2.2.out.1.trans (hb.mono h.2.2.out.1.size))
theorem Held.alloc {w W : World} {cs : Array Value} (h : Held w cs W) (o : Obj) : Held w cs (W.alloc o) := h.on ((Below.refl _ _).alloc (Nat.le_refl _) _)
theorem Held.set {w W : World} {cs : Array Value} {p : Addr} (h : Held w cs W) (hp : w.heap.size < p.block) (u : Value) : Held w cs (W.setCell p u) := Held.mk' (h.box.setFar (by omega) _) (h.2.2.out.1.setCell (by omega) _)

theorem below_al {X Y : World} {o : Obj} (h : Below (X.alloc o).heap.size (X.alloc o) Y) : Below X.heap.size X Y := ((Below.refl _ _).alloc (Nat.le_refl _) _).trans (h.mono (by simp))
theorem al_below {X Y : World} (h : Below X.heap.size X Y) (o : Obj) : Below X.heap.size X (Y.alloc o) := h.alloc h.size o
theorem one_al (X : World) (o : Obj) : Below X.heap.size X (X.alloc o) := (Below.refl _ _).alloc (Nat.le_refl _) _
theorem Held.swap {w W : World} {cs : Array Value} {o : Obj} (h : Held w cs (W.alloc o)) (hl : w.heap.size < W.heap.size) (o' : Obj) : Held w cs (W.alloc o') := by
  have hb := h.2.2.out.1
  exact Held.alloc (Held.mk' ⟨hl, fun i => ((one_al W o).cell (p := ⟨w.heap.size, i, none⟩) hl).symm.trans (h.1 i), fun i => ((one_al W o).frozen (p := ⟨w.heap.size, i, none⟩) hl).symm.trans (h.2.2.out.2 i)⟩ ⟨hb.os, hb.tape, hb.output, by omega, fun k hk => (Below.heap_alloc W o k (by omega)).symm.trans (hb.block k hk)⟩) _

theorem bt {a b c : World} (h : Below a.heap.size a b) (k : Below b.heap.size b c) : Below a.heap.size a c := h.trans (k.mono h.size)
theorem drew_on {X Y : World} (h : Below X.drew.heap.size X.drew Y) : Below X.heap.size X Y := ((Below.refl X.heap.size X).drew).trans (h.mono (Nat.le_refl _))
theorem al_drew_on {X Y : World} {o : Obj} (h : Below (X.alloc o).drew.heap.size (X.alloc o).drew Y) : Below X.heap.size X Y := below_al (drew_on h)

/-- two variables' cells are as they were, and what was there when the region began -/
abbrev Held2 (W0 : World) (b1 : Nat) (cs1 : Array Value) (b2 : Nat) (cs2 : Array Value) (W : World) : Prop :=
  (∀ i, W.cell? ⟨b1, i, none⟩ = cs1[i]?) ∧ (∀ i, W.cell? ⟨b2, i, none⟩ = cs2[i]?) ∧ Hid (Below W0.heap.size W0 W ∧ b1 < W0.heap.size ∧ b2 < W0.heap.size)
theorem Held2.drew {W0 : World} {b1 b2 : Nat} {cs1 cs2 : Array Value} (h1 : Box W0 b1 cs1) (h2 : Box W0 b2 cs2) : Held2 W0 b1 cs1 b2 cs2 W0.drew := ⟨h1.cell, h2.cell, (Below.refl _ _).drew, h1.lt, h2.lt⟩
theorem Held2.on {W0 W W' : World} {b1 b2 : Nat} {cs1 cs2 : Array Value} (h : Held2 W0 b1 cs1 b2 cs2 W) (hb : Below W.heap.size W W') : Held2 W0 b1 cs1 b2 cs2 W' := by
  obtain ⟨h1, h2, h3, h4, h5⟩ := h
  have := h3.size
  exact ⟨fun i => (hb.cell (p := ⟨b1, i, none⟩) (by simp only []; omega)).trans (h1 i), fun i => (hb.cell (p := ⟨b2, i, none⟩) (by simp only []; omega)).trans (h2 i), bt h3 hb, h4, h5⟩
theorem Held2.base {W0 W : World} {b1 b2 : Nat} {cs1 cs2 : Array Value} (h : Held2 W0 b1 cs1 b2 cs2 W) : Below W0.heap.size W0 W := h.2.2.out.1

section
variable (kind nm team : ByteArray) (vv hv sv : Value) (en : Bool) (ver : Int) (V Ho : List ByteArray) (Ss : List Sh) (w : World) (lo : Nat)
set_option maxRecDepth 20000 in
set_option maxHeartbeats 4000000 in
theorem specCheck_any (hS : ShsAt lo w sv Ss) (hV : StrsAt w vv V) (hH : StrsAt w hv Ho) (s2 : nm.size ≤ maxLen) (s3 : team.size ≤ maxLen) :
    Calls Tryz.prog 7 #[sv, .agg #[.string kind, .string nm, .string team, vv, .bool en, hv, .int .i64 ver]] w
      fun e w' => e = .returned (.tuple #[.int .i64 (checkG Ss kind nm team V Ho ver).1, .int .i64 (checkG Ss kind nm team V Ho ver).2]) ∧ Below w.heap.size w w' := by
  have HV := hide hV
  have HH := hide hH
  have HS := hide hS
  obtain ⟨a, cap, rfl⟩ := hV.formz
  obtain ⟨a', cap', rfl⟩ := hH.formz
  obtain ⟨a1, cap1, rfl⟩ := hS.form
  clear hV hH hS
  go_enter Tryz.func7, Tryz.ntmps7
  go_wp2_with fail
  generalize hW0 : w.alloc _ = W0
  have HB0 : Hid (Below w.heap.size w W0) := by rw [← hW0]; exact oneAl _ _
  have G0 : Hid (∀ i, W0.cell? ⟨w.heap.size, i, none⟩ = (#[.string kind, .string nm, .string team, .slice a V.length cap, .bool en, .slice a' Ho.length cap', .int .i64 ver] : Array Value)[i]?) := fun i => by rw [← hW0]; exact new_cellz _ _ _ _ _ rfl
  have hz0 : w.heap.size < W0.heap.size := by rw [← hW0]; simp
  clear hW0
  refine (specShapes_any lo _ Ss _ (HS.out.below HB0.out)).mono ?_
  rintro e w1 ⟨rfl, hb1⟩
  have HB1 : Hid (Below w.heap.size w w1) := btz HB0.out hb1
  have g1 : ∀ i, w1.cell? ⟨w.heap.size, i, none⟩ = (#[.string kind, .string nm, .string team, .slice a V.length cap, .bool en, .slice a' Ho.length cap', .int .i64 ver] : Array Value)[i]? := fun i => by rw [hb1.cell (p := ⟨w.heap.size, i, none⟩) hz0]; exact G0.out i
  clear hb1
  cases hsb : shapesB Ss with
  | false =>
    have HX : Hid (checkG Ss kind nm team V Ho ver = (1, 0)) := checkG_bad hsb
    go_wp2
    go_ret2
    exact ⟨by rw [HX.out]; rfl, HB1.out⟩
  | true =>
    have HX : Hid (checkG Ss kind nm team V Ho ver = checkS Ss kind nm team V Ho ver) := checkG_ok hsb
    go_wp2_with fail
    refine (l2Check_any _ _ _ _ _ _ _ _ V Ho Ss _ lo (HS.out.below HB1.out) (HV.out.below HB1.out) (HH.out.below HB1.out) s2 s3).mono ?_
    rintro e w2 ⟨rfl, hb2⟩
    have HB2 : Hid (Below w.heap.size w w2) := btz HB1.out hb2
    rw [← HX.out]
    clear hb2 HX g1 hsb
    go_wp2
    go_ret2
    exact ⟨rfl, HB2.out⟩
end
end Go.Proofs.YtckdcejbojhlcaaGreatDoor
