import Derived.Test.YthfdfdlojfdckaaGreatVBOG
import Derived.Test.YthfdfdlojfdckaaGreatVBLP
import Derived.Test.YthfdfdlojfdckaaGreatVLA
import Derived.Test.YthfdfdlojfdckaaGreatVOpX
import Derived.Test.YthfdfdlojfdckaaGreatVTD
import Derived.Test.YthfdfdlojfdckaaGreatVDA
import Derived.Test.YthfdfdlojfdckaaGreatVA1
import Derived.Test.YthfdfdlojfdckaaGreatVP1
import Derived.Test.YthfdfdlojfdckaaGreatVB1
import Derived.Test.YthfdfdlojfdckaaGreatVTA
namespace Go.Proofs.YthfdfdlojfdckaaGreat
open Go.RowKit Go.Deep

/-- a book -/
structure Bk where
  now : Int
  tick : Int
  given : Int
  os : List Ob
  gs : List Gr
  ls : List Le
  ps : List Pu
/-- a book in memory, all of it above lo -/
structure BookAt (lo : Nat) (w : World) (ov gv lv pv : Value) (B : Bk) : Prop where
  obs : ObsAt lo w ov B.os
  grs : GrsAt lo w gv B.gs
  les : LesAt lo w lv B.ls
  pus : PusAt lo w pv B.ps
theorem BookAt.below {lo : Nat} {w w' : World} {ov gv lv pv : Value} {B : Bk} (h : BookAt lo w ov gv lv pv B) (hb : Below w.heap.size w w') : BookAt lo w' ov gv lv pv B :=
  ⟨h.obs.below hb, h.grs.below hb, h.les.below hb, h.pus.below hb⟩
theorem BookAt.mono {lo lo' : Nat} {w : World} {ov gv lv pv : Value} {B : Bk} (h : BookAt lo w ov gv lv pv B) (hl : lo' ≤ lo) : BookAt lo' w ov gv lv pv B :=
  ⟨h.obs.mono hl, h.grs.mono hl, h.les.mono hl, h.pus.mono hl⟩
def BookSmall (B : Bk) : Prop := ObsSmall B.os ∧ GrsSmall B.gs ∧ LesSmall B.ls ∧ PusSmall B.ps

section
variable (lo : Nat) (ov gv lv pv : Value) (B : Bk) (w : World)

set_option maxHeartbeats 2000000 in
theorem szBook_any (left : Int) (h0 : 0 ≤ left) (h1 : left ≤ 1048576) (h : BookAt lo w ov gv lv pv B) :
    Calls Tryz.prog 6 #[.agg #[.int .i64 B.now, .int .i64 B.tick, .int .i64 B.given, ov, gv, lv, pv], .int .i64 left] w
      fun e w' => ∃ r : Int, e = .returned (.int .i64 r) ∧ Below w.heap.size w w' ∧ -1 ≤ r ∧ r ≤ left ∧ (0 ≤ r → BookSmall B) := by
  have HL := hide h
  obtain ⟨a0, k0, rfl⟩ := h.obs.form
  obtain ⟨a1, k1, rfl⟩ := h.grs.form
  obtain ⟨a2, k2, rfl⟩ := h.les.form
  obtain ⟨a3, k3, rfl⟩ := h.pus.form
  clear h
  go_enter Tryz.func6, Tryz.ntmps6
  go_wp2_with fail
  generalize hWa : w.alloc _ = Wa
  have HB0 : Hid (Below w.heap.size w Wa) := by rw [← hWa]; exact one_al w _
  have HX0 : Hid (Box Wa w.heap.size #[.int .i64 B.now, .int .i64 B.tick, .int .i64 B.given, .slice a0 B.os.length k0, .slice a1 B.gs.length k1, .slice a2 B.ls.length k2, .slice a3 B.ps.length k3]) := by rw [← hWa]; exact Box.new _ _ _ _ rfl
  clear hWa
  have hr0 : (0 : Int) ≤ left := h0
  refine (szObs_any lo _ B.os _ _ (by omega) (by omega) (HL.out.below HB0.out).obs).mono ?_
  rintro e w1 ⟨r1, rfl, hb1, p1, q1, s1⟩
  have HX1 := hide (HX0.out.on hb1)
  have HB1 : Hid (Below w.heap.size w w1) := HB0.out.trans (hb1.mono HB0.out.size)
  have Q1 := hide s1
  clear hb1 s1 HB0 HX0
  by_cases hn1 : r1 < 0
  · go_wp2
    go_ret
    exact ⟨-1, rfl, HB1.out, by omega, by omega, fun h => by omega⟩
  have c1 := HX1.out.cell 4
  simp at c1
  go_wp2_with fail
  clear c1
  refine (szGrs_any lo _ B.gs _ _ (by omega) (by omega) (HL.out.below HB1.out).grs).mono ?_
  rintro e w2 ⟨r2, rfl, hb2, p2, q2, s2⟩
  have HX2 := hide (HX1.out.on hb2)
  have HB2 : Hid (Below w.heap.size w w2) := HB1.out.trans (hb2.mono HB1.out.size)
  have Q2 := hide s2
  clear hb2 s2 HB1 HX1
  by_cases hn2 : r2 < 0
  · go_wp2
    go_ret
    exact ⟨-1, rfl, HB2.out, by omega, by omega, fun h => by omega⟩
  have c2 := HX2.out.cell 5
  simp at c2
  go_wp2_with fail
  clear c2
  refine (szLes_any lo _ B.ls _ _ (by omega) (by omega) (HL.out.below HB2.out).les).mono ?_
  rintro e w3 ⟨r3, rfl, hb3, p3, q3, s3⟩
  have HX3 := hide (HX2.out.on hb3)
  have HB3 : Hid (Below w.heap.size w w3) := HB2.out.trans (hb3.mono HB2.out.size)
  have Q3 := hide s3
  clear hb3 s3 HB2 HX2
  by_cases hn3 : r3 < 0
  · go_wp2
    go_ret
    exact ⟨-1, rfl, HB3.out, by omega, by omega, fun h => by omega⟩
  have c3 := HX3.out.cell 6
  simp at c3
  go_wp2_with fail
  clear c3
  refine (szPus_any lo _ B.ps _ _ (by omega) (by omega) (HL.out.below HB3.out).pus).mono ?_
  rintro e w4 ⟨r4, rfl, hb4, p4, q4, s4⟩
  have HX4 := hide (HX3.out.on hb4)
  have HB4 : Hid (Below w.heap.size w w4) := HB3.out.trans (hb4.mono HB3.out.size)
  have Q4 := hide s4
  clear hb4 s4 HB3 HX3
  by_cases hn4 : r4 < 0
  · go_wp2
    go_ret
    exact ⟨-1, rfl, HB4.out, by omega, by omega, fun h => by omega⟩
  go_wp2
  go_ret
  exact ⟨_, rfl, HB4.out, by omega, by omega, fun h => ⟨Q1.out (by omega), Q2.out (by omega), Q3.out (by omega), Q4.out (by omega)⟩⟩

set_option maxHeartbeats 2000000 in
theorem eqBook_same (lo' : Nat) (ov' gv' lv' pv' : Value) (h : BookAt lo w ov gv lv pv B) (h' : BookAt lo' w ov' gv' lv' pv' B) :
    Calls Tryz.prog 14 #[.agg #[.int .i64 B.now, .int .i64 B.tick, .int .i64 B.given, ov, gv, lv, pv], .agg #[.int .i64 B.now, .int .i64 B.tick, .int .i64 B.given, ov', gv', lv', pv']] w fun e w' => e = .returned (.bool true) ∧ Below w.heap.size w w' := by
  have HL := hide h
  have HR := hide h'
  obtain ⟨a0, k0, rfl⟩ := h.obs.form
  obtain ⟨a1, k1, rfl⟩ := h.grs.form
  obtain ⟨a2, k2, rfl⟩ := h.les.form
  obtain ⟨a3, k3, rfl⟩ := h.pus.form
  obtain ⟨d0, md0, rfl⟩ := h'.obs.form
  obtain ⟨d1, md1, rfl⟩ := h'.grs.form
  obtain ⟨d2, md2, rfl⟩ := h'.les.form
  obtain ⟨d3, md3, rfl⟩ := h'.pus.form
  clear h h'
  go_enter Tryz.func14, Tryz.ntmps14
  go_wp2_with fail
  generalize hWa : (World.alloc (w.alloc _) _) = Wa
  have HB0 : Hid (Below w.heap.size w Wa) := by rw [← hWa]; exact (one_al w _).alloc (by simp) _
  have HX0 : Hid (Box Wa w.heap.size #[.int .i64 B.now, .int .i64 B.tick, .int .i64 B.given, .slice a0 B.os.length k0, .slice a1 B.gs.length k1, .slice a2 B.ls.length k2, .slice a3 B.ps.length k3]) := by rw [← hWa]; exact (Box.new _ _ _ _ rfl).on (one_al _ _)
  have HY0 : Hid (Box Wa (w.heap.size + 1) #[.int .i64 B.now, .int .i64 B.tick, .int .i64 B.given, .slice d0 B.os.length md0, .slice d1 B.gs.length md1, .slice d2 B.ls.length md2, .slice d3 B.ps.length md3]) := by rw [← hWa]; exact Box.new _ _ _ _ (by simp)
  clear hWa
  refine (eqObs_same lo lo' _ _ B.os _ (HL.out.below HB0.out).obs (HR.out.below HB0.out).obs).mono ?_
  rintro e w1 ⟨rfl, hb1⟩
  have HX1 := hide (HX0.out.on hb1)
  have HY1 := hide (HY0.out.on hb1)
  have HB1 : Hid (Below w.heap.size w w1) := HB0.out.trans (hb1.mono HB0.out.size)
  clear hb1 HB0 HX0 HY0
  have c1 := HX1.out.cell 4
  have e1 := HY1.out.cell 4
  simp at c1 e1
  go_wp2_with fail
  clear c1 e1
  refine (eqGrs_same lo lo' _ _ B.gs _ (HL.out.below HB1.out).grs (HR.out.below HB1.out).grs).mono ?_
  rintro e w2 ⟨rfl, hb2⟩
  have HX2 := hide (HX1.out.on hb2)
  have HY2 := hide (HY1.out.on hb2)
  have HB2 : Hid (Below w.heap.size w w2) := HB1.out.trans (hb2.mono HB1.out.size)
  clear hb2 HB1 HX1 HY1
  have c2 := HX2.out.cell 5
  have e2 := HY2.out.cell 5
  simp at c2 e2
  go_wp2_with fail
  clear c2 e2
  refine (eqLes_same lo lo' _ _ B.ls _ (HL.out.below HB2.out).les (HR.out.below HB2.out).les).mono ?_
  rintro e w3 ⟨rfl, hb3⟩
  have HX3 := hide (HX2.out.on hb3)
  have HY3 := hide (HY2.out.on hb3)
  have HB3 : Hid (Below w.heap.size w w3) := HB2.out.trans (hb3.mono HB2.out.size)
  clear hb3 HB2 HX2 HY2
  have c3 := HX3.out.cell 6
  have e3 := HY3.out.cell 6
  simp at c3 e3
  go_wp2_with fail
  clear c3 e3
  refine (eqPus_same lo lo' _ _ B.ps _ (HL.out.below HB3.out).pus (HR.out.below HB3.out).pus).mono ?_
  rintro e w4 ⟨rfl, hb4⟩
  have HX4 := hide (HX3.out.on hb4)
  have HY4 := hide (HY3.out.on hb4)
  have HB4 : Hid (Below w.heap.size w w4) := HB3.out.trans (hb4.mono HB3.out.size)
  clear hb4 HB3 HX3 HY3
  go_wp2
  go_ret
  exact ⟨rfl, HB4.out⟩

set_option maxHeartbeats 4000000 in
theorem toBook_any (h : BookAt lo w ov gv lv pv B) (hn : BookSmall B) :
    Calls Tryz.prog 10 #[.agg #[.int .i64 B.now, .int .i64 B.tick, .int .i64 B.given, ov, gv, lv, pv]] w
      fun e w' => ∃ b0 m0 b1 m1 b2 m2 b3 m3, e = .returned (.agg #[.int .i64 B.now, .int .i64 B.tick, .int .i64 B.given, .slice b0 B.os.length m0, .slice b1 B.gs.length m1, .slice b2 B.ls.length m2, .slice b3 B.ps.length m3]) ∧ Below w.heap.size w w' ∧
        BookAt w.heap.size w' (.slice b0 B.os.length m0) (.slice b1 B.gs.length m1) (.slice b2 B.ls.length m2) (.slice b3 B.ps.length m3) B := by
  have HL := hide h
  obtain ⟨a0, k0, rfl⟩ := h.obs.form
  obtain ⟨a1, k1, rfl⟩ := h.grs.form
  obtain ⟨a2, k2, rfl⟩ := h.les.form
  obtain ⟨a3, k3, rfl⟩ := h.pus.form
  obtain ⟨hn0, hn1, hn2, hn3⟩ := hn
  clear h
  go_enter Tryz.func10, Tryz.ntmps10
  go_wp2_with fail
  obtain ⟨wz, hwz, HX0, HR0, HO0, HB0⟩ : ∃ wz, wz = ((w.alloc (.cells #[.int .i64 B.now, .int .i64 B.tick, .int .i64 B.given, .slice a0 B.os.length k0, .slice a1 B.gs.length k1, .slice a2 B.ls.length k2, .slice a3 B.ps.length k3] 32)).alloc (.cells #[.int .i64 0, .int .i64 0, .int .i64 0, .slice none 0 0, .slice none 0 0, .slice none 0 0, .slice none 0 0] 50)).alloc (.cells #[.int .i64 B.now, .int .i64 B.tick, .int .i64 B.given, .slice none 0 0, .slice none 0 0, .slice none 0 0, .slice none 0 0] 50) ∧
      Hid (Box wz w.heap.size #[.int .i64 B.now, .int .i64 B.tick, .int .i64 B.given, .slice a0 B.os.length k0, .slice a1 B.gs.length k1, .slice a2 B.ls.length k2, .slice a3 B.ps.length k3]) ∧ Hid (Box wz (w.heap.size + 1) #[.int .i64 0, .int .i64 0, .int .i64 0, .slice none 0 0, .slice none 0 0, .slice none 0 0, .slice none 0 0]) ∧
      Hid (Box wz (w.heap.size + 1 + 1) #[.int .i64 B.now, .int .i64 B.tick, .int .i64 B.given, .slice none 0 0, .slice none 0 0, .slice none 0 0, .slice none 0 0]) ∧ Hid (Below w.heap.size w wz) :=
    ⟨_, rfl, ((Box.new w _ _ _ rfl).on (one_al _ _)).on (one_al _ _), (Box.new _ _ _ _ (by simp)).on (one_al _ _), Box.new _ _ _ _ (by simp), ((one_al _ _).trans ((one_al _ _).mono (by simp))).trans ((one_al _ _).mono (by simp; omega))⟩
  rw [← hwz]
  clear hwz
  generalize wz = v0 at *
  have hz0 : w.heap.size + 3 ≤ v0.heap.size := by have := HO0.out.lt; omega
  refine (toObs_any lo _ B.os _ (HL.out.below HB0.out).obs hn0).mono ?_
  rintro e w0 ⟨u0, rfl, hb0, hs0⟩
  obtain ⟨b0, m0, rfl⟩ := hs0.form
  have GX := hide (HX0.out.on hb0)
  have GR := hide (HR0.out.on hb0)
  have GO := hide (HO0.out.on hb0)
  have GB := hide (HB0.out.trans (hb0.mono HB0.out.size))
  have GN : Hid (ObsAt (w.heap.size + 3) w0 (.slice b0 B.os.length m0) B.os) := hs0.mono hz0
  clear hb0 hs0 HX0 HR0 HO0 HB0 hz0
  have o0 := GO.out.cell 3
  have f0 := GO.out.free 3
  have x1 := GX.out.cell 4
  simp at o0 f0 x1
  go_wp2_with fail
  clear o0 f0 x1
  obtain ⟨v1, hwq, HX1, HR1, HO1, HB1, HS0⟩ : ∃ wq, wq = w0.setCell ⟨w.heap.size + 1 + 1, 3, none⟩ (.slice b0 B.os.length m0) ∧
      Hid (Box wq w.heap.size #[.int .i64 B.now, .int .i64 B.tick, .int .i64 B.given, .slice a0 B.os.length k0, .slice a1 B.gs.length k1, .slice a2 B.ls.length k2, .slice a3 B.ps.length k3]) ∧ Hid (Box wq (w.heap.size + 1) #[.int .i64 0, .int .i64 0, .int .i64 0, .slice none 0 0, .slice none 0 0, .slice none 0 0, .slice none 0 0]) ∧
      Hid (Box wq (w.heap.size + 1 + 1) #[.int .i64 B.now, .int .i64 B.tick, .int .i64 B.given, .slice b0 B.os.length m0, .slice none 0 0, .slice none 0 0, .slice none 0 0]) ∧ Hid (Below w.heap.size w wq) ∧ Hid (ObsAt (w.heap.size + 3) wq (.slice b0 B.os.length m0) B.os) :=
    ⟨_, rfl, GX.out.setFar (by simp only []; omega) _, GR.out.setFar (by simp only []; omega) _, GO.out.set (k := 3) (.slice b0 B.os.length m0) (by simp), GB.out.setCell (by simp only []; omega) _, GN.out.set (by simp only []; omega) _⟩
  rw [← hwq]
  clear hwq GX GR GO GB GN
  have hz1 : w.heap.size + 3 ≤ v1.heap.size := by have := HO1.out.lt; omega
  refine (toGrs_any lo _ B.gs _ (HL.out.below HB1.out).grs hn1).mono ?_
  rintro e w1 ⟨u1, rfl, hb1, hs1⟩
  obtain ⟨b1, m1, rfl⟩ := hs1.form
  have GX := hide (HX1.out.on hb1)
  have GR := hide (HR1.out.on hb1)
  have GO := hide (HO1.out.on hb1)
  have GB := hide (HB1.out.trans (hb1.mono HB1.out.size))
  have GN : Hid (GrsAt (w.heap.size + 3) w1 (.slice b1 B.gs.length m1) B.gs) := hs1.mono hz1
  have G0 := hide (HS0.out.below hb1)
  clear hb1 hs1 HX1 HR1 HO1 HB1 hz1 HS0
  have o0 := GO.out.cell 4
  have f0 := GO.out.free 4
  have x1 := GX.out.cell 5
  simp at o0 f0 x1
  go_wp2_with fail
  clear o0 f0 x1
  obtain ⟨v2, hwq, HX2, HR2, HO2, HB2, HS1, HS0⟩ : ∃ wq, wq = w1.setCell ⟨w.heap.size + 1 + 1, 4, none⟩ (.slice b1 B.gs.length m1) ∧
      Hid (Box wq w.heap.size #[.int .i64 B.now, .int .i64 B.tick, .int .i64 B.given, .slice a0 B.os.length k0, .slice a1 B.gs.length k1, .slice a2 B.ls.length k2, .slice a3 B.ps.length k3]) ∧ Hid (Box wq (w.heap.size + 1) #[.int .i64 0, .int .i64 0, .int .i64 0, .slice none 0 0, .slice none 0 0, .slice none 0 0, .slice none 0 0]) ∧
      Hid (Box wq (w.heap.size + 1 + 1) #[.int .i64 B.now, .int .i64 B.tick, .int .i64 B.given, .slice b0 B.os.length m0, .slice b1 B.gs.length m1, .slice none 0 0, .slice none 0 0]) ∧ Hid (Below w.heap.size w wq) ∧ Hid (GrsAt (w.heap.size + 3) wq (.slice b1 B.gs.length m1) B.gs) ∧ Hid (ObsAt (w.heap.size + 3) wq (.slice b0 B.os.length m0) B.os) :=
    ⟨_, rfl, GX.out.setFar (by simp only []; omega) _, GR.out.setFar (by simp only []; omega) _, GO.out.set (k := 4) (.slice b1 B.gs.length m1) (by simp), GB.out.setCell (by simp only []; omega) _, GN.out.set (by simp only []; omega) _, G0.out.set (by simp only []; omega) _⟩
  rw [← hwq]
  clear hwq GX GR GO GB GN G0
  have hz2 : w.heap.size + 3 ≤ v2.heap.size := by have := HO2.out.lt; omega
  refine (toLes_any lo _ B.ls _ (HL.out.below HB2.out).les hn2).mono ?_
  rintro e w2 ⟨u2, rfl, hb2, hs2⟩
  obtain ⟨b2, m2, rfl⟩ := hs2.form
  have GX := hide (HX2.out.on hb2)
  have GR := hide (HR2.out.on hb2)
  have GO := hide (HO2.out.on hb2)
  have GB := hide (HB2.out.trans (hb2.mono HB2.out.size))
  have GN : Hid (LesAt (w.heap.size + 3) w2 (.slice b2 B.ls.length m2) B.ls) := hs2.mono hz2
  have G0 := hide (HS0.out.below hb2)
  have G1 := hide (HS1.out.below hb2)
  clear hb2 hs2 HX2 HR2 HO2 HB2 hz2 HS0 HS1
  have o0 := GO.out.cell 5
  have f0 := GO.out.free 5
  have x1 := GX.out.cell 6
  simp at o0 f0 x1
  go_wp2_with fail
  clear o0 f0 x1
  obtain ⟨v3, hwq, HX3, HR3, HO3, HB3, HS2, HS0, HS1⟩ : ∃ wq, wq = w2.setCell ⟨w.heap.size + 1 + 1, 5, none⟩ (.slice b2 B.ls.length m2) ∧
      Hid (Box wq w.heap.size #[.int .i64 B.now, .int .i64 B.tick, .int .i64 B.given, .slice a0 B.os.length k0, .slice a1 B.gs.length k1, .slice a2 B.ls.length k2, .slice a3 B.ps.length k3]) ∧ Hid (Box wq (w.heap.size + 1) #[.int .i64 0, .int .i64 0, .int .i64 0, .slice none 0 0, .slice none 0 0, .slice none 0 0, .slice none 0 0]) ∧
      Hid (Box wq (w.heap.size + 1 + 1) #[.int .i64 B.now, .int .i64 B.tick, .int .i64 B.given, .slice b0 B.os.length m0, .slice b1 B.gs.length m1, .slice b2 B.ls.length m2, .slice none 0 0]) ∧ Hid (Below w.heap.size w wq) ∧ Hid (LesAt (w.heap.size + 3) wq (.slice b2 B.ls.length m2) B.ls) ∧ Hid (ObsAt (w.heap.size + 3) wq (.slice b0 B.os.length m0) B.os) ∧ Hid (GrsAt (w.heap.size + 3) wq (.slice b1 B.gs.length m1) B.gs) :=
    ⟨_, rfl, GX.out.setFar (by simp only []; omega) _, GR.out.setFar (by simp only []; omega) _, GO.out.set (k := 5) (.slice b2 B.ls.length m2) (by simp), GB.out.setCell (by simp only []; omega) _, GN.out.set (by simp only []; omega) _, G0.out.set (by simp only []; omega) _, G1.out.set (by simp only []; omega) _⟩
  rw [← hwq]
  clear hwq GX GR GO GB GN G0 G1
  have hz3 : w.heap.size + 3 ≤ v3.heap.size := by have := HO3.out.lt; omega
  refine (toPus_any lo _ B.ps _ (HL.out.below HB3.out).pus hn3).mono ?_
  rintro e w3 ⟨u3, rfl, hb3, hs3⟩
  obtain ⟨b3, m3, rfl⟩ := hs3.form
  have GX := hide (HX3.out.on hb3)
  have GR := hide (HR3.out.on hb3)
  have GO := hide (HO3.out.on hb3)
  have GB := hide (HB3.out.trans (hb3.mono HB3.out.size))
  have GN : Hid (PusAt (w.heap.size + 3) w3 (.slice b3 B.ps.length m3) B.ps) := hs3.mono hz3
  have G0 := hide (HS0.out.below hb3)
  have G1 := hide (HS1.out.below hb3)
  have G2 := hide (HS2.out.below hb3)
  clear hb3 hs3 HX3 HR3 HO3 HB3 hz3 HS0 HS1 HS2
  have o0 := GO.out.cell 0
  have o1 := GO.out.cell 1
  have o2 := GO.out.cell 2
  have o3 := GO.out.cell 3
  have o4 := GO.out.cell 4
  have o5 := GO.out.cell 5
  have o6 := GO.out.cell 6
  have f6 := GO.out.free 6
  have r0 := GR.out.cell 0
  have g0 := GR.out.free 0
  have r1 := GR.out.cell 1
  have g1 := GR.out.free 1
  have r2 := GR.out.cell 2
  have g2 := GR.out.free 2
  have r3 := GR.out.cell 3
  have g3 := GR.out.free 3
  have r4 := GR.out.cell 4
  have g4 := GR.out.free 4
  have r5 := GR.out.cell 5
  have g5 := GR.out.free 5
  have r6 := GR.out.cell 6
  have g6 := GR.out.free 6
  simp at o0 o1 o2 o3 o4 o5 o6 r0 r1 r2 r3 r4 r5 r6
  go_wp2
  refine bodyPost_ret (v := .agg #[.int .i64 B.now, .int .i64 B.tick, .int .i64 B.given, .slice b0 B.os.length m0, .slice b1 B.gs.length m1, .slice b2 B.ls.length m2, .slice b3 B.ps.length m3]) (by simp [results, Tryz.results10, go_sem, r0, r1, r2, r3, r4, r5, r6]) rfl ⟨_, _, _, _, _, _, _, _, rfl, ?_, ?_, ?_, ?_, ?_⟩
  · repeat (refine Below.setCell ?_ (by simp only []; omega) _)
    exact GB.out
  · refine ObsAt.mono (lo := w.heap.size + 3) ?_ (by omega)
    repeat (refine ObsAt.set ?_ (by simp only []; omega) _)
    exact G0.out
  · refine GrsAt.mono (lo := w.heap.size + 3) ?_ (by omega)
    repeat (refine GrsAt.set ?_ (by simp only []; omega) _)
    exact G1.out
  · refine LesAt.mono (lo := w.heap.size + 3) ?_ (by omega)
    repeat (refine LesAt.set ?_ (by simp only []; omega) _)
    exact G2.out
  · refine PusAt.mono (lo := w.heap.size + 3) ?_ (by omega)
    repeat (refine PusAt.set ?_ (by simp only []; omega) _)
    exact GN.out
end
end Go.Proofs.YthfdfdlojfdckaaGreat

namespace Go.Proofs.YthfdfdlojfdckaaGreat
open Go.ChangeShapes Go.WideShapes Go.ChangeAt Go.RowKit Go.Deep

theorem Tryz.cells26 : Tryz.prog.cellsOf 26 = 3 := by kernel_rfl
theorem Tryz.cells22 : Tryz.prog.cellsOf 22 = 1 := by kernel_rfl
theorem Tryz.cells23 : Tryz.prog.cellsOf 23 = 1 := by kernel_rfl
theorem Tryz.cells24 : Tryz.prog.cellsOf 24 = 1 := by kernel_rfl
theorem array3 {cs : Array Value} (h : cs.size = 3) : ∃ c0 c1 c2, cs = #[c0, c1, c2] := by
  obtain ⟨l⟩ := cs
  match l, h with
  | [c0, c1, c2], _ => exact ⟨c0, c1, c2, rfl⟩

section
variable {H : Type} {enc : TypeId × Value → H} {W : World}

set_option maxRecDepth 100000 in
theorem open_law {r : Reach} {b0 : Nat} {v : Value} {d : DataW H} {p : List MemPlace} (hv : Value.okWide Tryz.prog W r b0 26 v) (h : DataW.Trod enc Tryz.prog W 0 (fun _ => true) true 26 v d p) :
    ∃ (sv mv tv : Value) (Ss : List Sh) (Ms : List Md) (Ts : List Tm), v = .agg #[sv, mv, tv] ∧ LawAt 0 W sv mv tv Ss Ms Ts := by
  obtain ⟨cs, rfl, hsz⟩ := okWide_struct Tryz.underlying26 hv
  obtain ⟨c0, c1, c2, rfl⟩ := array3 (hsz.trans Tryz.cells26)
  obtain ⟨fuel, hf⟩ := h
  obtain ⟨xs, n, _, _, _, hlen, hfld⟩ := DataW.trod_struct Tryz.underlying26 hf
  simp only [Array.size, List.length_cons, List.length_nil] at hlen
  have g0 : DataW.trod enc Tryz.prog W 0 (fun _ => true) true n 22 ((([c0, c1, c2] : List Value).drop 0).take (Tryz.prog.cellsOf 22)) = xs[0]? := hfld 0 _ rfl
  have g1 : DataW.trod enc Tryz.prog W 0 (fun _ => true) true n 23 ((([c0, c1, c2] : List Value).drop 1).take (Tryz.prog.cellsOf 23)) = xs[1]? := hfld 1 _ rfl
  have g2 : DataW.trod enc Tryz.prog W 0 (fun _ => true) true n 24 ((([c0, c1, c2] : List Value).drop 2).take (Tryz.prog.cellsOf 24)) = xs[2]? := hfld 2 _ rfl
  simp only [Tryz.cells22, Tryz.cells23, Tryz.cells24, List.drop_succ_cons, List.drop_zero, List.take_succ_cons, List.take_zero] at g0 g1 g2
  rw [List.getElem?_eq_getElem (by omega)] at g0 g1 g2
  obtain ⟨Ss, hS⟩ := open_shs g0
  obtain ⟨Ms, hM⟩ := open_mds g1
  obtain ⟨Ts, hT⟩ := open_tms g2
  exact ⟨c0, c1, c2, Ss, Ms, Ts, rfl, hS, hM, hT⟩
end
end Go.Proofs.YthfdfdlojfdckaaGreat

