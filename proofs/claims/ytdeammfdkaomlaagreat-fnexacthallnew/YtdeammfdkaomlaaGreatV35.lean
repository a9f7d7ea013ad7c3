import Derived.Test.YtdeammfdkaomlaaGreatV33
import Derived.Test.YtdeammfdkaomlaaGreatV34
import Derived.Deep.RegionWith
import Derived.Deep.RegionLaw
import Derived.Deep.AppendLies
import Derived.Deep.RegionHeldLaw
namespace Go.Proofs.YtdeammfdkaomlaaGreat
open Go.RowKit Go.Deep

def TmsFew (Ts : List Tm) : Prop := Ts.length ≤ 1048576
theorem TmsAt.set {lo : Nat} {w : World} {v : Value} {Ts : List Tm} (h : TmsAt lo w v Ts) {p : Addr} (hp : p.block < lo) (u : Value) : TmsAt lo (w.setCell p u) v Ts := h.setCell hp u
/-- a first grant, at place i -/
def firstB (i : Nat) (g : Gr) : Bool := decide (g.nu = (i : Int) + 1) && nameB g.tw && g.gb.toList.isEmpty && ruleB g.ru
def firstI (gs : List Gr) (i : Nat) : Bool := match gs[i]? with
  | some g => firstB i g
  | none => true
theorem firstI_at {gs : List Gr} {i : Nat} (h : i < gs.length) : firstI gs i = firstB i gs[i] := by
  unfold firstI
  rw [List.getElem?_eq_getElem h]
def firstsB (gs : List Gr) : Bool := (List.range gs.length).all (firstI gs)
theorem firsts_no {gs : List Gr} {m : Nat} (hm : m < gs.length) (h : firstB m gs[m] = false) : firstsB gs = false := range_not hm ((firstI_at hm).trans h)
theorem firsts_yes {gs : List Gr} (h : ∀ j (h : j < gs.length), firstB j gs[j] = true) : firstsB gs = true := range_all fun i hi => (firstI_at hi).trans (h i hi)
end Go.Proofs.YtdeammfdkaomlaaGreat
namespace Go.Proofs.YtdeammfdkaomlaaGreat
open Go.RowKit Go.Deep

theorem cell_new7 (X : World) (g : Nat) (L : List Value) (t : TypeId) (hg : X.heap.size = g) : ∀ j x, L[j]? = some x → (X.alloc (.cells L.toArray t)).cell? ((⟨g, 0, none⟩ : Addr).add j) = some x := by
  intro j x hx
  subst hg
  rw [Go.WideShapes.add_plain, Nat.zero_add, new_cell _ _ _ _ _ rfl]
  simpa using hx
theorem take_map_snoc {X Y : Type} {L : List (X × Y)} {l : List X} {k : Nat} (h : L.map Prod.fst = l.take k) (hk : k < l.length) {x : X × Y} (hx : x.1 = l[k]) : (L ++ [x]).map Prod.fst = l.take (k + 1) := by
  rw [List.map_append, h, List.take_succ_eq_append_getElem hk, List.map_cons, List.map_nil, hx]
theorem take_map_len {X Y : Type} {L : List (X × Y)} {l : List X} {k : Nat} (h : L.map Prod.fst = l.take k) (hk : k ≤ l.length) : L.length = k := by
  have := congrArg List.length h
  rw [List.length_map, List.length_take] at this
  omega
theorem grcs_one (x : Gr) (a : Option Addr) (n c : Nat) : ∀ u ∈ Grcs (x, .slice a n c), u.oneCell' = true := by
  intro u hu
  simp only [Grcs, List.mem_cons, List.not_mem_nil, or_false] at hu
  rcases hu with rfl | rfl | rfl | rfl | rfl | rfl | rfl <;> rfl
theorem below_q4 {wr X : World} (h : Below wr.heap.size wr X) (a b c d : Value) (o : Obj) (i j k l : Nat) : Below wr.heap.size wr (((((X.setCell ⟨wr.heap.size, i, none⟩ a).setCell ⟨wr.heap.size, j, none⟩ b).setCell ⟨wr.heap.size, k, none⟩ c).setCell ⟨wr.heap.size, l, none⟩ d).alloc o) := by
  refine Below.alloc ?_ (by simp only [World.setCell, Array.size_modify]; exact h.size) _
  exact (((h.setCell (p := ⟨wr.heap.size, i, none⟩) (Nat.le_refl _) a).setCell (p := ⟨wr.heap.size, j, none⟩) (Nat.le_refl _) b).setCell (p := ⟨wr.heap.size, k, none⟩) (Nat.le_refl _) c).setCell (p := ⟨wr.heap.size, l, none⟩) (Nat.le_refl _) d
theorem size_q4 (X : World) (g : Nat) (a b c d : Value) (i j k l : Nat) : ((((X.setCell ⟨g, i, none⟩ a).setCell ⟨g, j, none⟩ b).setCell ⟨g, k, none⟩ c).setCell ⟨g, l, none⟩ d).heap.size = X.heap.size := by simp [World.setCell]
theorem size_q4' (X : World) (g : Nat) (a b c d : Value) (o : Obj) (i j k l : Nat) : X.heap.size ≤ (((((X.setCell ⟨g, i, none⟩ a).setCell ⟨g, j, none⟩ b).setCell ⟨g, k, none⟩ c).setCell ⟨g, l, none⟩ d).alloc o).heap.size := by simp [World.setCell]
theorem ints_q4 {g lo hi : Nat} {X : World} {v : Value} {L : List Int} (h : IntsOwn lo hi X v L) (hg : g < lo) (a b c d : Value) (o : Obj) (i j k l : Nat) : IntsOwn lo hi (((((X.setCell ⟨g, i, none⟩ a).setCell ⟨g, j, none⟩ b).setCell ⟨g, k, none⟩ c).setCell ⟨g, l, none⟩ d).alloc o) v L :=
  ((((h.setLow hg _).setLow hg _).setLow hg _).setLow hg _).below (one_al _ _)
/-- where the copy of a book stands behind its two loops -/
structure CpIn (s : Nat) (w wr : World) (cb cx : Array Value) : Prop where
  bel : Below s w wr
  inn : Box wr s cb
  res : Box wr (s + 1) #[.int .i64 0, .int .i64 0, .int .i64 0, .slice none 0 0, .slice none 0 0, .slice none 0 0, .slice none 0 0]
  out : Box wr (s + 2) cx
theorem CpIn.on {s : Nat} {w wr w' : World} {cb cx : Array Value} (h : CpIn s w wr cb cx) (hb : Below (s + 3) wr w') : CpIn s w w' cb cx :=
  ⟨h.bel.trans (hb.mono (by omega)), h.inn.below hb (by omega), h.res.below hb (by omega), h.out.below hb (by omega)⟩
theorem CpIn.set {s : Nat} {w wr : World} {cb cx : Array Value} (h : CpIn s w wr cb cx) (k : Nat) (u : Value) (hk : k < cx.size) : CpIn s w (wr.setCell ⟨s + 2, k, none⟩ u) cb (cx.set k u hk) :=
  ⟨h.bel.setCell (by simp only []; omega) _, h.inn.setFar (by simp only []; omega) _, h.res.setFar (by simp only []; omega) _, h.out.set (k := k) u hk⟩

end Go.Proofs.YtdeammfdkaomlaaGreat
namespace Go.Proofs.YtdeammfdkaomlaaGreat
open Go.RowKit Go.Deep

/-- a cell and a box below a base -/
abbrev HeldF (base : Nat) (W0 : World) (p : Addr) (u : Value) (β : Nat) (cs : Array Value) (W : World) : Prop :=
  W.cell? p = some u ∧ (∀ i, W.cell? ⟨β, i, none⟩ = cs[i]?) ∧ Hid (Below base W0 W ∧ p.block < base ∧ β < base)
theorem HeldF.on {base : Nat} {W0 W W' : World} {p : Addr} {u : Value} {β : Nat} {cs : Array Value} (h : HeldF base W0 p u β cs W) (hb : Below base W W') : HeldF base W0 p u β cs W' :=
  ⟨(hb.cell h.2.2.out.2.1).trans h.1, fun i => (hb.cell (p := ⟨β, i, none⟩) h.2.2.out.2.2).trans (h.2.1 i), h.2.2.out.1.trans hb, h.2.2.out.2⟩
end Go.Proofs.YtdeammfdkaomlaaGreat
