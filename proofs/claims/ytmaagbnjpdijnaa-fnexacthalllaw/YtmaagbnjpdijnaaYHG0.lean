import Derived.Test.YtmaagbnjpdijnaaYHA
import Derived.Test.YtmaagbnjpdijnaaYB1
import Derived.Test.YtmaagbnjpdijnaaYNN
import Derived.Deep.MidRow
import Derived.Test.YtmaagbnjpdijnaaYP1
import Derived.Test.YtmaagbnjpdijnaaYTA
import Derived.Test.YtmaagbnjpdijnaaYDA
import Derived.Test.YtmaagbnjpdijnaaYA1
namespace Go.Proofs.Ytmaagbnjpdijnaa
open Go.RowKit Go.Deep

structure Lw where
  sh : List Sh
  md : List Md
  tm : List Tm
structure LwAt (lo : Nat) (w : World) (v0 v1 v2 : Value) (U : Lw) : Prop where
  l0 : ShsAt lo w v0 U.sh
  l1 : MdsAt lo w v1 U.md
  l2 : TmsAt lo w v2 U.tm
theorem LwAt.below {lo : Nat} {w w' : World} {v0 v1 v2 : Value} {U : Lw} (h : LwAt lo w v0 v1 v2 U) (hb : Below w.heap.size w w') : LwAt lo w' v0 v1 v2 U := ⟨h.l0.below hb, h.l1.below hb, h.l2.below hb⟩
theorem LwAt.mono {lo lo' : Nat} {w : World} {v0 v1 v2 : Value} {U : Lw} (h : LwAt lo w v0 v1 v2 U) (hl : lo' ≤ lo) : LwAt lo' w v0 v1 v2 U := ⟨h.l0.mono hl, h.l1.mono hl, h.l2.mono hl⟩
/-- its cells -/
def lwL (U : Lw) (a0 : Option Addr) (k0 : Nat) (a1 : Option Addr) (k1 : Nat) (a2 : Option Addr) (k2 : Nat) : List Value := [.slice a0 U.sh.length k0, .slice a1 U.md.length k1, .slice a2 U.tm.length k2]
/-- its cells, and what they lead to -/
def LwC (lo : Nat) (w : World) (cs : List Value) (U : Lw) : Prop := ∃ a0 k0 a1 k1 a2 k2, cs = lwL U a0 k0 a1 k1 a2 k2 ∧ LwAt lo w (.slice a0 U.sh.length k0) (.slice a1 U.md.length k1) (.slice a2 U.tm.length k2) U
theorem LwC.below {lo : Nat} {w w' : World} {cs : List Value} {U : Lw} (h : LwC lo w cs U) (hb : Below w.heap.size w w') : LwC lo w' cs U := by
  obtain ⟨a0, k0, a1, k1, a2, k2, h1, h2⟩ := h
  exact ⟨a0, k0, a1, k1, a2, k2, h1, h2.below hb⟩
theorem LwC.mono {lo lo' : Nat} {w : World} {cs : List Value} {U : Lw} (h : LwC lo w cs U) (hl : lo' ≤ lo) : LwC lo' w cs U := by
  obtain ⟨a0, k0, a1, k1, a2, k2, h1, h2⟩ := h
  exact ⟨a0, k0, a1, k1, a2, k2, h1, h2.mono hl⟩
theorem LwC.len {lo : Nat} {w : World} {cs : List Value} {U : Lw} (h : LwC lo w cs U) : cs.length = 3 := by
  obtain ⟨a0, k0, a1, k1, a2, k2, h1, h2⟩ := h
  rw [h1]; rfl
theorem LwC.one {lo : Nat} {w : World} {cs : List Value} {U : Lw} (h : LwC lo w cs U) : Array.all cs.toArray (·.oneCell') = true := by
  obtain ⟨a0, k0, a1, k1, a2, k2, h1, h2⟩ := h
  rw [h1]
  unfold lwL
  simp [Value.oneCell']

set_option maxHeartbeats 8000000 in
theorem eqLw_c (lo lo' : Nat) (cs cs' : List Value) (U : Lw) (w : World) (h : LwC lo w cs U) (h' : LwC lo' w cs' U) :
    Calls Try.prog 10 #[.agg cs.toArray, .agg cs'.toArray] w fun e w' => e = .returned (.bool true) ∧ Below w.heap.size w w' := by
  obtain ⟨a0, k0, a1, k1, a2, k2, rfl, h⟩ := h
  obtain ⟨d0, e0, d1, e1, d2, e2, rfl, h'⟩ := h'
  show Calls Try.prog 10 #[.agg #[.slice a0 U.sh.length k0, .slice a1 U.md.length k1, .slice a2 U.tm.length k2], .agg #[.slice d0 U.sh.length e0, .slice d1 U.md.length e1, .slice d2 U.tm.length e2]] w _
  have HL := hide h
  have HR := hide h'
  clear h h'
  go_enter Try.func10, Try.ntmps10
  go_wp2_with fail
  generalize hWa : (World.alloc (w.alloc _) _) = Wa
  have HB : Hid (Below w.heap.size w Wa) := by unfold Hid; rw [← hWa]; exact (one_al w _).alloc (by simp) _
  have FX : Hid (Box Wa w.heap.size #[.slice a0 U.sh.length k0, .slice a1 U.md.length k1, .slice a2 U.tm.length k2]) := by unfold Hid; rw [← hWa]; exact (Box.new _ _ _ _ rfl).on (one_al _ _)
  have FY : Hid (Box Wa (w.heap.size + 1) #[.slice d0 U.sh.length e0, .slice d1 U.md.length e1, .slice d2 U.tm.length e2]) := by unfold Hid; rw [← hWa]; exact Box.new _ _ _ _ (by simp)
  clear hWa
  refine (eqShs_same lo lo' _ _ U.sh _ ((HL.out.below HB.out).l0) ((HR.out.below HB.out).l0)).mono ?_
  rintro e w0 ⟨rfl, hb⟩
  replace HB := hide (bt HB.out hb)
  replace FX := hide (FX.out.on hb)
  replace FY := hide (FY.out.on hb)
  clear hb
  have g0 := FX.out.cell
  have g1 := FY.out.cell
  go_wp2_with fail
  clear g0 g1
  refine (eqMds_same lo lo' _ _ U.md _ ((HL.out.below HB.out).l1) ((HR.out.below HB.out).l1)).mono ?_
  rintro e w1 ⟨rfl, hb⟩
  replace HB := hide (bt HB.out hb)
  replace FX := hide (FX.out.on hb)
  replace FY := hide (FY.out.on hb)
  clear hb
  have g0 := FX.out.cell
  have g1 := FY.out.cell
  go_wp2_with fail
  clear g0 g1
  refine (eqTms_same lo lo' _ _ U.tm _ ((HL.out.below HB.out).l2) ((HR.out.below HB.out).l2)).mono ?_
  rintro e w2 ⟨rfl, hb⟩
  replace HB := hide (bt HB.out hb)
  replace FX := hide (FX.out.on hb)
  replace FY := hide (FY.out.on hb)
  clear hb
  have g0 := FX.out.cell
  have g1 := FY.out.cell
  go_wp2
  go_ret
  exact ⟨rfl, HB.out⟩

end Go.Proofs.Ytmaagbnjpdijnaa

