import Derived.Test.YtdeammfdkaomlaaGreatV08
import Derived.Test.YtdeammfdkaomlaaGreatV09
import Derived.BigQuiet
import Derived.Deep.MidRow
namespace Go.Proofs.YtdeammfdkaomlaaGreat
open Go.RowKit Go.Deep

/-- the worlds of a class -/
structure In (C : World → Prop) where
  w : World
  h : C w
/-- a region that draws, walked once in the order of the text, every operation staying inside a class of worlds -/
theorem wp_region_class {P : Program} {id : Nat} {Q : Exit → Act → World → Prop} {a : Act} {w : World} {l : List Oper} (C : World → Prop) (hm : P.follows .mixedOrders = true) (hB : Region.lexB .any l.toArray = true) (hC : C w.drew)
    (h : wpQuiet P l.toArray (fun w' => ∃ X : In C, w' = X.w) (fun a' => ∀ w', (∃ X : In C, w' = X.w) → Q .normal a' w') l a) : (Code.region id l.toArray true).wp P Q a w :=
  wp_region_quiet (C := fun w' => ∃ X : In C, w' = X.w) hm hB ⟨⟨_, hC⟩, rfl⟩ (by simpa using h)
theorem in_self {C : World → Prop} (X : In C) : (∃ Y : In C, X.w = Y.w) = True := eq_true ⟨X, rfl⟩
/-- two boxes, and memory that is only added to -/
structure Cls (W0 : World) (b1 : Nat) (cs1 : Array Value) (b2 : Nat) (cs2 : Array Value) (W : World) : Prop where
  on : Below W0.heap.size W0 W
  x1 : Box W0 b1 cs1
  x2 : Box W0 b2 cs2
theorem Cls.c1 {W0 : World} {b1 : Nat} {cs1 : Array Value} {b2 : Nat} {cs2 : Array Value} (X : In (Cls W0 b1 cs1 b2 cs2)) (i : Nat) : X.w.cell? ⟨b1, i, none⟩ = cs1[i]? := (X.h.x1.on X.h.on).cell i
theorem Cls.c2 {W0 : World} {b1 : Nat} {cs1 : Array Value} {b2 : Nat} {cs2 : Array Value} (X : In (Cls W0 b1 cs1 b2 cs2)) (i : Nat) : X.w.cell? ⟨b2, i, none⟩ = cs2[i]? := (X.h.x2.on X.h.on).cell i
theorem Cls.next {W0 : World} {b1 : Nat} {cs1 : Array Value} {b2 : Nat} {cs2 : Array Value} (X : In (Cls W0 b1 cs1 b2 cs2)) {W' : World} (h : Below X.w.heap.size X.w W') : ∃ Y : In (Cls W0 b1 cs1 b2 cs2), W' = Y.w :=
  ⟨⟨W', ⟨X.h.on.trans (h.mono X.h.on.size), X.h.x1, X.h.x2⟩⟩, rfl⟩
end Go.Proofs.YtdeammfdkaomlaaGreat
namespace Go.Proofs.YtdeammfdkaomlaaGreat
open Go.RowKit Go.Deep

structure Rd where
  pr : Int
  kn : Int
  sl : List Rs
structure RdAt (lo : Nat) (w : World) (v0 : Value) (U : Rd) : Prop where
  l0 : RssAt lo w v0 U.sl
theorem RdAt.below {lo : Nat} {w w' : World} {v0 : Value} {U : Rd} (h : RdAt lo w v0 U) (hb : Below w.heap.size w w') : RdAt lo w' v0 U := ⟨h.l0.below hb⟩
theorem RdAt.mono {lo lo' : Nat} {w : World} {v0 : Value} {U : Rd} (h : RdAt lo w v0 U) (hl : lo' ≤ lo) : RdAt lo' w v0 U := ⟨h.l0.mono hl⟩
theorem RdAt.set {lo : Nat} {w : World} {v0 : Value} {U : Rd} (h : RdAt lo w v0 U) {p : Addr} (hp : p.block < lo) (u : Value) : RdAt lo (w.setCell p u) v0 U := ⟨h.l0.set hp u⟩
/-- its cells -/
def rdL (U : Rd) (a0 : Option Addr) (k0 : Nat) : List Value := [.int .i64 U.pr, .int .i64 U.kn, .slice a0 U.sl.length k0]
/-- its cells, and what they lead to -/
def RdC (lo : Nat) (w : World) (cs : List Value) (U : Rd) : Prop := ∃ a0 k0, cs = rdL U a0 k0 ∧ RdAt lo w (.slice a0 U.sl.length k0) U
theorem RdC.below {lo : Nat} {w w' : World} {cs : List Value} {U : Rd} (h : RdC lo w cs U) (hb : Below w.heap.size w w') : RdC lo w' cs U := by
  obtain ⟨a0, k0, h1, h2⟩ := h
  exact ⟨a0, k0, h1, h2.below hb⟩
theorem RdC.mono {lo lo' : Nat} {w : World} {cs : List Value} {U : Rd} (h : RdC lo w cs U) (hl : lo' ≤ lo) : RdC lo' w cs U := by
  obtain ⟨a0, k0, h1, h2⟩ := h
  exact ⟨a0, k0, h1, h2.mono hl⟩
theorem RdC.set {lo : Nat} {w : World} {cs : List Value} {U : Rd} (h : RdC lo w cs U) {p : Addr} (hp : p.block < lo) (u : Value) : RdC lo (w.setCell p u) cs U := by
  obtain ⟨a0, k0, h1, h2⟩ := h
  exact ⟨a0, k0, h1, h2.set hp u⟩
theorem RdC.len {lo : Nat} {w : World} {cs : List Value} {U : Rd} (h : RdC lo w cs U) : cs.length = 3 := by
  obtain ⟨a0, k0, h1, h2⟩ := h
  rw [h1]; rfl
theorem RdC.one {lo : Nat} {w : World} {cs : List Value} {U : Rd} (h : RdC lo w cs U) : Array.all cs.toArray (·.oneCell') = true := by
  obtain ⟨a0, k0, h1, h2⟩ := h
  rw [h1]
  unfold rdL
  simp [Value.oneCell']

set_option maxHeartbeats 8000000 in
theorem eqRd_c (lo lo' : Nat) (cs cs' : List Value) (U : Rd) (w : World) (h : RdC lo w cs U) (h' : RdC lo' w cs' U) :
    Calls Tryz.prog 73 #[.agg cs.toArray, .agg cs'.toArray] w fun e w' => e = .returned (.bool true) ∧ Below w.heap.size w w' := by
  obtain ⟨a0, k0, rfl, h⟩ := h
  obtain ⟨d0, e0, rfl, h'⟩ := h'
  show Calls Tryz.prog 73 #[.agg #[.int .i64 U.pr, .int .i64 U.kn, .slice a0 U.sl.length k0], .agg #[.int .i64 U.pr, .int .i64 U.kn, .slice d0 U.sl.length e0]] w _
  have HL := hide h
  have HR := hide h'
  clear h h'
  go_enter Tryz.func73, Tryz.ntmps73
  go_wp2_with fail
  generalize hWa : (World.alloc (w.alloc _) _) = Wa
  have HB : Hid (Below w.heap.size w Wa) := by unfold Hid; rw [← hWa]; exact (one_al w _).alloc (by simp) _
  have FX : Hid (Box Wa w.heap.size #[.int .i64 U.pr, .int .i64 U.kn, .slice a0 U.sl.length k0]) := by unfold Hid; rw [← hWa]; exact (Box.new _ _ _ _ rfl).on (one_al _ _)
  have FY : Hid (Box Wa (w.heap.size + 1) #[.int .i64 U.pr, .int .i64 U.kn, .slice d0 U.sl.length e0]) := by unfold Hid; rw [← hWa]; exact Box.new _ _ _ _ (by simp)
  clear hWa
  refine (eqRss_same lo lo' _ _ U.sl _ ((HL.out.below HB.out).l0) ((HR.out.below HB.out).l0)).mono ?_
  rintro e w0 ⟨rfl, hb⟩
  replace HB := hide (bt HB.out hb)
  replace FX := hide (FX.out.on hb)
  replace FY := hide (FY.out.on hb)
  clear hb
  have g0 := FX.out.cell
  have g1 := FY.out.cell
  go_wp2
  go_ret
  exact ⟨rfl, HB.out⟩

end Go.Proofs.YtdeammfdkaomlaaGreat
