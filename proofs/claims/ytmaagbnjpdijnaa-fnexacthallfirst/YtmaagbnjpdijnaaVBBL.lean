import Derived.Test.YtmaagbnjpdijnaaVBOG
import Derived.Test.YtmaagbnjpdijnaaVLA
import Derived.Test.YtmaagbnjpdijnaaVNN
import Derived.Test.YtmaagbnjpdijnaaVTD
import Derived.Test.YtmaagbnjpdijnaaVDA
import Derived.Test.YtmaagbnjpdijnaaVA1
namespace Go.Proofs.Ytmaagbnjpdijnaa
open Go.RowKit Go.Deep

/-- a book -/
structure Bk where
  now : Int
  tick : Int
  given : Int
  os : List Ob
  gs : List Gr
  ls : List Le
  ps : List Pu
/-- a book in memory, all of it above lo -/
structure BookAt (lo : Nat) (w : World) (ov gv lv pv : Value) (B : Bk) : Prop where
  obs : ObsAt lo w ov B.os
  grs : GrsAt lo w gv B.gs
  les : LesAt lo w lv B.ls
  pus : PusAt lo w pv B.ps
theorem BookAt.below {lo : Nat} {w w' : World} {ov gv lv pv : Value} {B : Bk} (h : BookAt lo w ov gv lv pv B) (hb : Below w.heap.size w w') : BookAt lo w' ov gv lv pv B :=
  ⟨h.obs.below hb, h.grs.below hb, h.les.below hb, h.pus.below hb⟩
theorem BookAt.mono {lo lo' : Nat} {w : World} {ov gv lv pv : Value} {B : Bk} (h : BookAt lo w ov gv lv pv B) (hl : lo' ≤ lo) : BookAt lo' w ov gv lv pv B :=
  ⟨h.obs.mono hl, h.grs.mono hl, h.les.mono hl, h.pus.mono hl⟩
def BookSmall (B : Bk) : Prop := ObsSmall B.os ∧ GrsSmall B.gs ∧ LesSmall B.ls ∧ PusSmall B.ps

section
variable (lo : Nat) (ov gv lv pv : Value) (B : Bk) (w : World)

set_option maxHeartbeats 2000000 in
theorem eqBook_same (lo' : Nat) (ov' gv' lv' pv' : Value) (h : BookAt lo w ov gv lv pv B) (h' : BookAt lo' w ov' gv' lv' pv' B) :
    Calls Try.prog 52 #[.agg #[.int .i64 B.now, .int .i64 B.tick, .int .i64 B.given, ov, gv, lv, pv], .agg #[.int .i64 B.now, .int .i64 B.tick, .int .i64 B.given, ov', gv', lv', pv']] w fun e w' => e = .returned (.bool true) ∧ Below w.heap.size w w' := by
  have HL := hide h
  have HR := hide h'
  obtain ⟨a0, k0, rfl⟩ := h.obs.form
  obtain ⟨a1, k1, rfl⟩ := h.grs.form
  obtain ⟨a2, k2, rfl⟩ := h.les.form
  obtain ⟨a3, k3, rfl⟩ := h.pus.form
  obtain ⟨d0, md0, rfl⟩ := h'.obs.form
  obtain ⟨d1, md1, rfl⟩ := h'.grs.form
  obtain ⟨d2, md2, rfl⟩ := h'.les.form
  obtain ⟨d3, md3, rfl⟩ := h'.pus.form
  clear h h'
  go_enter Try.func52, Try.ntmps52
  go_wp2_with fail
  generalize hWa : (World.alloc (w.alloc _) _) = Wa
  have HB0 : Hid (Below w.heap.size w Wa) := by rw [← hWa]; exact (one_al w _).alloc (by simp) _
  have HX0 : Hid (Box Wa w.heap.size #[.int .i64 B.now, .int .i64 B.tick, .int .i64 B.given, .slice a0 B.os.length k0, .slice a1 B.gs.length k1, .slice a2 B.ls.length k2, .slice a3 B.ps.length k3]) := by rw [← hWa]; exact (Box.new _ _ _ _ rfl).on (one_al _ _)
  have HY0 : Hid (Box Wa (w.heap.size + 1) #[.int .i64 B.now, .int .i64 B.tick, .int .i64 B.given, .slice d0 B.os.length md0, .slice d1 B.gs.length md1, .slice d2 B.ls.length md2, .slice d3 B.ps.length md3]) := by rw [← hWa]; exact Box.new _ _ _ _ (by simp)
  clear hWa
  refine (eqObs_same lo lo' _ _ B.os _ (HL.out.below HB0.out).obs (HR.out.below HB0.out).obs).mono ?_
  rintro e w1 ⟨rfl, hb1⟩
  have HX1 := hide (HX0.out.on hb1)
  have HY1 := hide (HY0.out.on hb1)
  have HB1 : Hid (Below w.heap.size w w1) := HB0.out.trans (hb1.mono HB0.out.size)
  clear hb1 HB0 HX0 HY0
  have c1 := HX1.out.cell 4
  have e1 := HY1.out.cell 4
  simp at c1 e1
  go_wp2_with fail
  clear c1 e1
  refine (eqGrs_same lo lo' _ _ B.gs _ (HL.out.below HB1.out).grs (HR.out.below HB1.out).grs).mono ?_
  rintro e w2 ⟨rfl, hb2⟩
  have HX2 := hide (HX1.out.on hb2)
  have HY2 := hide (HY1.out.on hb2)
  have HB2 : Hid (Below w.heap.size w w2) := HB1.out.trans (hb2.mono HB1.out.size)
  clear hb2 HB1 HX1 HY1
  have c2 := HX2.out.cell 5
  have e2 := HY2.out.cell 5
  simp at c2 e2
  go_wp2_with fail
  clear c2 e2
  refine (eqLes_same lo lo' _ _ B.ls _ (HL.out.below HB2.out).les (HR.out.below HB2.out).les).mono ?_
  rintro e w3 ⟨rfl, hb3⟩
  have HX3 := hide (HX2.out.on hb3)
  have HY3 := hide (HY2.out.on hb3)
  have HB3 : Hid (Below w.heap.size w w3) := HB2.out.trans (hb3.mono HB2.out.size)
  clear hb3 HB2 HX2 HY2
  have c3 := HX3.out.cell 6
  have e3 := HY3.out.cell 6
  simp at c3 e3
  go_wp2_with fail
  clear c3 e3
  refine (eqPus_same lo lo' _ _ B.ps _ (HL.out.below HB3.out).pus (HR.out.below HB3.out).pus).mono ?_
  rintro e w4 ⟨rfl, hb4⟩
  have HX4 := hide (HX3.out.on hb4)
  have HY4 := hide (HY3.out.on hb4)
  have HB4 : Hid (Below w.heap.size w w4) := HB3.out.trans (hb4.mono HB3.out.size)
  clear hb4 HB3 HX3 HY3
  go_wp2
  go_ret
  exact ⟨rfl, HB4.out⟩

end
end Go.Proofs.Ytmaagbnjpdijnaa

namespace Go.Proofs.Ytmaagbnjpdijnaa
open Go.ChangeShapes Go.WideShapes Go.ChangeAt Go.RowKit Go.Deep

theorem Try.cells22 : Try.prog.cellsOf 22 = 1 := by kernel_rfl
section
variable {H : Type} {enc : TypeId × Value → H} {W : World}

end
end Go.Proofs.Ytmaagbnjpdijnaa

