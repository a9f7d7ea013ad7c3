import Derived.Test.YtfohnageehneoaaGreatUN2
import Derived.Test.YtfohnageehneoaaGreatUTA
import Derived.Test.YtfohnageehneoaaGreatUDA
import Derived.RangeFuncNested
import Derived.RangeFuncBound
import Derived.RangeFuncCalls
import Derived.RangeFuncLeaves
import Derived.Shelf.Abstract
import Derived.Shelf.RegionOpen
import Derived.WalkKit
import Derived.OwnWalkIn
import Derived.TacticsInMore
import Derived.LoopNIn
import Derived.LoopIn
import Derived.Test.YtfohnageehneoaaGreatUB1
import Derived.Test.YtfohnageehneoaaGreatUA1
import Derived.Test.YtfohnageehneoaaGreatUP1
import Derived.Test.YtfohnageehneoaaGreatUNA
namespace Go.Proofs.YtfohnageehneoaaGreat
open Go.RowKit Go.Deep

theorem ShsAt.set' {lo : Nat} {w : World} {v : Value} {Ss : List Sh} (h : ShsAt lo w v Ss) {p : Addr} (hp : p.block < lo) (u : Value) : ShsAt lo (w.setCell p u) v Ss := by
  rcases h with h | ⟨b, off, cap, h1, h2, h3, h4, h5, h7⟩
  · exact Or.inl h
  · refine Or.inr ⟨b, off, cap, h1, h2, h3, by simpa [World.setCell] using h4, h5, fun i hi => ?_⟩
    obtain ⟨hs, fv, c0, c1, hF⟩ := h7 i hi
    exact ⟨hs, fv, by rw [cell_setCell_ne _ _ _ _ (by simp only []; omega)]; exact c0, by rw [cell_setCell_ne _ _ _ _ (by simp only []; omega)]; exact c1, hF.setCell hp u⟩

/-- a law in memory, all of it above lo -/
structure LawAt (lo : Nat) (w : World) (sv mv tv : Value) (Ss : List Sh) (Ms : List Md) (Ts : List Tm) : Prop where
  shs : ShsAt lo w sv Ss
  mds : MdsAt lo w mv Ms
  tms : TmsAt lo w tv Ts
theorem LawAt.below {lo : Nat} {w w' : World} {sv mv tv : Value} {Ss : List Sh} {Ms : List Md} {Ts : List Tm} (h : LawAt lo w sv mv tv Ss Ms Ts) (hb : Below w.heap.size w w') : LawAt lo w' sv mv tv Ss Ms Ts :=
  ⟨h.shs.below hb, h.mds.below hb, h.tms.below hb⟩
theorem LawAt.mono {lo lo' : Nat} {w : World} {sv mv tv : Value} {Ss : List Sh} {Ms : List Md} {Ts : List Tm} (h : LawAt lo w sv mv tv Ss Ms Ts) (hl : lo' ≤ lo) : LawAt lo' w sv mv tv Ss Ms Ts :=
  ⟨h.shs.mono hl, h.mds.mono hl, h.tms.mono hl⟩
def LawSmall (Ss : List Sh) (Ms : List Md) (Ts : List Tm) : Prop := ShsSmall Ss ∧ Ms.length ≤ 1048576 ∧ Ts.length ≤ 1048576

section
variable (lo : Nat) (sv mv tv : Value) (Ss : List Sh) (Ms : List Md) (Ts : List Tm) (w : World)

set_option maxHeartbeats 1000000 in
theorem szLaw_any (left : Int) (h0 : 0 ≤ left) (h1 : left ≤ 1048576) (h : LawAt lo w sv mv tv Ss Ms Ts) :
    Calls Tryz.prog 7 #[.agg #[sv, mv, tv], .int .i64 left] w
      fun e w' => ∃ r : Int, e = .returned (.int .i64 r) ∧ Below w.heap.size w w' ∧ -1 ≤ r ∧ r ≤ left ∧ (0 ≤ r → LawSmall Ss Ms Ts) := by
  have HL := hide h
  obtain ⟨a, cap, rfl⟩ := h.shs.form
  obtain ⟨a1, cap1, rfl⟩ := h.mds.form
  obtain ⟨a2, cap2, rfl⟩ := h.tms.form
  clear h
  go_enter Tryz.func7, Tryz.ntmps7
  go_wp2_with fail
  have hX := Box.new w #[.slice a Ss.length cap, .slice a1 Ms.length cap1, .slice a2 Ts.length cap2] 26 _ rfl
  have hB0 := one_al w (.cells #[.slice a Ss.length cap, .slice a1 Ms.length cap1, .slice a2 Ts.length cap2] 26)
  refine (szShs_any lo _ Ss _ _ (by omega) (by omega) (HL.out.below hB0).shs).mono ?_
  rintro e w1 ⟨r, rfl, hb1, q0, q1, q2⟩
  have hX1 := hide (hX.on hb1)
  have HB1 := hide (hB0.trans (hb1.mono hB0.size))
  have c1 := hX1.out.cell 1
  have c2 := hX1.out.cell 2
  simp at c1 c2
  clear hb1 hB0 hX
  have Q := hide q2
  clear q2
  by_cases hr : r < 0
  · go_wp2
    go_ret
    exact ⟨-1, rfl, HB1.out, by omega, by omega, fun h => by omega⟩
  go_wp2_with fail
  refine (szMds_any lo _ Ms _ _ (by omega) (by omega) (HL.out.below HB1.out).mds).mono ?_
  rintro e w2 ⟨r2, rfl, hb2, p0, p1, p2⟩
  have hX2 := hide (hX1.out.on hb2)
  have HB2 := hide (HB1.out.trans (hb2.mono HB1.out.size))
  have d2 := hX2.out.cell 2
  simp at d2
  clear hb2 HB1 hX1 c1 c2
  have Q2 := hide p2
  clear p2
  by_cases hr2 : r2 < 0
  · go_wp2
    go_ret
    exact ⟨-1, rfl, HB2.out, by omega, by omega, fun h => by omega⟩
  go_wp2_with fail
  refine (szTms_any lo _ Ts _ _ (by omega) (by omega) (HL.out.below HB2.out).tms).mono ?_
  rintro e w3 ⟨r3, rfl, hb3, s0, s1, s2⟩
  have HB3 := hide (HB2.out.trans (hb3.mono HB2.out.size))
  have Q3 := hide s2
  clear hb3 s2
  by_cases hr3 : r3 < 0
  · go_wp2
    go_ret
    exact ⟨-1, rfl, HB3.out, by omega, by omega, fun h => by omega⟩
  go_wp2
  go_ret
  exact ⟨_, rfl, HB3.out, by omega, by omega, fun h => ⟨Q.out (by omega), by have := Q2.out (by omega); omega, by have := Q3.out (by omega); omega⟩⟩

set_option maxHeartbeats 1000000 in
theorem eqLaw_same (lo' : Nat) (sv' mv' tv' : Value) (h : LawAt lo w sv mv tv Ss Ms Ts) (h' : LawAt lo' w sv' mv' tv' Ss Ms Ts) :
    Calls Tryz.prog 14 #[.agg #[sv, mv, tv], .agg #[sv', mv', tv']] w fun e w' => e = .returned (.bool true) ∧ Below w.heap.size w w' := by
  have HL := hide h
  have HR := hide h'
  obtain ⟨a, cap, rfl⟩ := h.shs.form
  obtain ⟨a1, cap1, rfl⟩ := h.mds.form
  obtain ⟨a2, cap2, rfl⟩ := h.tms.form
  obtain ⟨a', cap', rfl⟩ := h'.shs.form
  obtain ⟨a1', cap1', rfl⟩ := h'.mds.form
  obtain ⟨a2', cap2', rfl⟩ := h'.tms.form
  clear h h'
  go_enter Tryz.func14, Tryz.ntmps14
  go_wp2_with fail
  have hX := Box.new w #[.slice a Ss.length cap, .slice a1 Ms.length cap1, .slice a2 Ts.length cap2] 47 _ rfl
  have hB0 := one_al w (.cells #[.slice a Ss.length cap, .slice a1 Ms.length cap1, .slice a2 Ts.length cap2] 47)
  have hsz : (w.alloc (.cells #[.slice a Ss.length cap, .slice a1 Ms.length cap1, .slice a2 Ts.length cap2] 47)).heap.size = w.heap.size + 1 := by simp
  generalize w.alloc (.cells #[.slice a Ss.length cap, .slice a1 Ms.length cap1, .slice a2 Ts.length cap2] 47) = wx at hX hB0 hsz ⊢
  have hY := Box.new wx #[.slice a' Ss.length cap', .slice a1' Ms.length cap1', .slice a2' Ts.length cap2'] 47 _ hsz
  have hB1 := one_al wx (.cells #[.slice a' Ss.length cap', .slice a1' Ms.length cap1', .slice a2' Ts.length cap2'] 47)
  have hX1 := hX.on hB1
  have HB := hide (hB0.trans (hB1.mono hB0.size))
  generalize wx.alloc (.cells #[.slice a' Ss.length cap', .slice a1' Ms.length cap1', .slice a2' Ts.length cap2'] 47) = wy at hY hX1 HB ⊢
  clear hX hB0 hB1 hsz
  refine (eqShs_same lo lo' _ _ Ss _ (HL.out.below HB.out).shs (HR.out.below HB.out).shs).mono ?_
  rintro e w1 ⟨rfl, hb1⟩
  have HX := hide (hX1.on hb1)
  have HY := hide (hY.on hb1)
  have HB1 := hide (HB.out.trans (hb1.mono HB.out.size))
  clear hb1 hX1 hY HB
  have c1 := HX.out.cell 1
  have d1 := HY.out.cell 1
  simp at c1 d1
  go_wp2_with fail
  clear c1 d1
  refine (eqMds_same lo lo' _ _ Ms _ (HL.out.below HB1.out).mds (HR.out.below HB1.out).mds).mono ?_
  rintro e w2 ⟨rfl, hb2⟩
  have HX := hide (HX.out.on hb2)
  have HY := hide (HY.out.on hb2)
  have HB2 := hide (HB1.out.trans (hb2.mono HB1.out.size))
  clear hb2 HB1
  have c1 := HX.out.cell 2
  have d1 := HY.out.cell 2
  simp at c1 d1
  go_wp2_with fail
  clear c1 d1
  refine (eqTms_same lo lo' _ _ Ts _ (HL.out.below HB2.out).tms (HR.out.below HB2.out).tms).mono ?_
  rintro e w3 ⟨rfl, hb3⟩
  have HB3 := hide (HB2.out.trans (hb3.mono HB2.out.size))
  clear hb3 HB2
  go_wp2
  go_ret
  exact ⟨rfl, HB3.out⟩

set_option maxHeartbeats 2000000 in
theorem toLaw_any (h : LawAt lo w sv mv tv Ss Ms Ts) (hn : LawSmall Ss Ms Ts) :
    Calls Tryz.prog 10 #[.agg #[sv, mv, tv]] w
      fun e w' => ∃ a cap a1 cap1 a2 cap2, e = .returned (.agg #[.slice a Ss.length cap, .slice a1 Ms.length cap1, .slice a2 Ts.length cap2]) ∧ Below w.heap.size w w' ∧
        LawAt w.heap.size w' (.slice a Ss.length cap) (.slice a1 Ms.length cap1) (.slice a2 Ts.length cap2) Ss Ms Ts := by
  have HL := hide h
  obtain ⟨a, cap, rfl⟩ := h.shs.form
  obtain ⟨a1, cap1, rfl⟩ := h.mds.form
  obtain ⟨a2, cap2, rfl⟩ := h.tms.form
  clear h
  go_enter Tryz.func10, Tryz.ntmps10
  go_wp2_with fail
  obtain ⟨wz, hwz, HX, HR, HO, HB⟩ : ∃ wz, wz = ((w.alloc (.cells #[.slice a Ss.length cap, .slice a1 Ms.length cap1, .slice a2 Ts.length cap2] 26)).alloc (.cells #[.slice none 0 0, .slice none 0 0, .slice none 0 0] 47)).alloc (.cells #[.slice none 0 0, .slice none 0 0, .slice none 0 0] 47) ∧
      Hid (Box wz w.heap.size #[.slice a Ss.length cap, .slice a1 Ms.length cap1, .slice a2 Ts.length cap2]) ∧ Hid (Box wz (w.heap.size + 1) #[.slice none 0 0, .slice none 0 0, .slice none 0 0]) ∧
      Hid (Box wz (w.heap.size + 1 + 1) #[.slice none 0 0, .slice none 0 0, .slice none 0 0]) ∧ Hid (Below w.heap.size w wz) :=
    ⟨_, rfl, ((Box.new w _ _ _ rfl).on (one_al _ _)).on (one_al _ _), (Box.new _ _ _ _ (by simp)).on (one_al _ _), Box.new _ _ _ _ (by simp), ((one_al _ _).trans ((one_al _ _).mono (by simp))).trans ((one_al _ _).mono (by simp; omega))⟩
  rw [← hwz]
  clear hwz
  have hz0 : w.heap.size + 3 ≤ wz.heap.size := by have := HO.out.lt; omega
  refine (toShs_any lo _ Ss _ (HL.out.below HB.out).shs hn.1).mono ?_
  rintro e w1 ⟨v1, rfl, hb1, hs1⟩
  obtain ⟨b1, k1, rfl⟩ := hs1.form
  have HX1 := hide (HX.out.on hb1)
  have HR1 := hide (HR.out.on hb1)
  have HO1 := hide (HO.out.on hb1)
  have HB1 := hide (HB.out.trans (hb1.mono HB.out.size))
  have HS1 : Hid (ShsAt (w.heap.size + 3) w1 (.slice b1 Ss.length k1) Ss) := hs1.mono hz0
  clear hb1 hs1 HX HR HO HB hz0
  have o0 := HO1.out.cell 0
  have f0 := HO1.out.free 0
  have x1 := HX1.out.cell 1
  simp at o0 f0 x1
  go_wp2_with fail
  clear o0 f0 x1
  obtain ⟨wq, hwq, HX, HR, HO, HB, HS⟩ : ∃ wq, wq = w1.setCell ⟨w.heap.size + 1 + 1, 0, none⟩ (.slice b1 Ss.length k1) ∧
      Hid (Box wq w.heap.size #[.slice a Ss.length cap, .slice a1 Ms.length cap1, .slice a2 Ts.length cap2]) ∧ Hid (Box wq (w.heap.size + 1) #[.slice none 0 0, .slice none 0 0, .slice none 0 0]) ∧
      Hid (Box wq (w.heap.size + 1 + 1) #[.slice b1 Ss.length k1, .slice none 0 0, .slice none 0 0]) ∧ Hid (Below w.heap.size w wq) ∧ Hid (ShsAt (w.heap.size + 3) wq (.slice b1 Ss.length k1) Ss) :=
    ⟨_, rfl, HX1.out.setFar (by simp only []; omega) _, HR1.out.setFar (by simp only []; omega) _, HO1.out.set (k := 0) (.slice b1 Ss.length k1) (by simp), HB1.out.setCell (by simp only []; omega) _, HS1.out.set' (by simp only []; omega) _⟩
  rw [← hwq]
  clear hwq HX1 HR1 HO1 HB1 HS1
  have hz0 : w.heap.size + 3 ≤ wq.heap.size := by have := HO.out.lt; omega
  refine (toMdsO_any lo _ Ms _ (HL.out.below HB.out).mds hn.2.1).mono ?_
  rintro e w2 ⟨v2, rfl, hb2, hs2, -⟩
  obtain ⟨b2, k2, rfl⟩ := hs2.form
  have HX2 := hide (HX.out.on hb2)
  have HR2 := hide (HR.out.on hb2)
  have HO2 := hide (HO.out.on hb2)
  have HB2 := hide (HB.out.trans (hb2.mono HB.out.size))
  have HS2 := hide (HS.out.below hb2)
  have HM2 : Hid (MdsAt (w.heap.size + 3) w2 (.slice b2 Ms.length k2) Ms) := hs2.mono hz0
  clear hb2 hs2 HX HR HO HB hz0 HS
  have o0 := HO2.out.cell 1
  have f0 := HO2.out.free 1
  have x1 := HX2.out.cell 2
  simp at o0 f0 x1
  go_wp2_with fail
  clear o0 f0 x1
  obtain ⟨wq, hwq, HR, HO, HB, HS, HM⟩ : ∃ wq, wq = w2.setCell ⟨w.heap.size + 1 + 1, 1, none⟩ (.slice b2 Ms.length k2) ∧
      Hid (Box wq (w.heap.size + 1) #[.slice none 0 0, .slice none 0 0, .slice none 0 0]) ∧
      Hid (Box wq (w.heap.size + 1 + 1) #[.slice b1 Ss.length k1, .slice b2 Ms.length k2, .slice none 0 0]) ∧ Hid (Below w.heap.size w wq) ∧ Hid (ShsAt (w.heap.size + 3) wq (.slice b1 Ss.length k1) Ss) ∧ Hid (MdsAt (w.heap.size + 3) wq (.slice b2 Ms.length k2) Ms) :=
    ⟨_, rfl, HR2.out.setFar (by simp only []; omega) _, HO2.out.set (k := 1) (.slice b2 Ms.length k2) (by simp), HB2.out.setCell (by simp only []; omega) _, HS2.out.set' (by simp only []; omega) _, HM2.out.setCell (by simp only []; omega) _⟩
  rw [← hwq]
  clear hwq HX2 HR2 HO2 HB2 HS2 HM2
  have hz0 : w.heap.size + 3 ≤ wq.heap.size := by have := HO.out.lt; omega
  refine (toTms_any lo _ Ts _ (HL.out.below HB.out).tms hn.2.2).mono ?_
  rintro e w3 ⟨v3, rfl, hb3, hs3⟩
  obtain ⟨b3, k3, rfl⟩ := hs3.form
  have HR3 := hide (HR.out.on hb3)
  have HO3 := hide (HO.out.on hb3)
  have HB3 := hide (HB.out.trans (hb3.mono HB.out.size))
  have HS3 := hide (HS.out.below hb3)
  have HM3 := hide (HM.out.below hb3)
  have HT3 : Hid (TmsAt (w.heap.size + 3) w3 (.slice b3 Ts.length k3) Ts) := hs3.mono hz0
  clear hb3 hs3 HR HO HB hz0 HS HM
  have o0 := HO3.out.cell 0
  have o1 := HO3.out.cell 1
  have o2 := HO3.out.cell 2
  have f2 := HO3.out.free 2
  have r0 := HR3.out.cell 0
  have r1 := HR3.out.cell 1
  have r2 := HR3.out.cell 2
  have g0 := HR3.out.free 0
  have g1 := HR3.out.free 1
  have g2 := HR3.out.free 2
  simp at o0 o1 o2 r0 r1 r2
  go_wp2
  refine bodyPost_ret (v := .agg #[.slice b1 Ss.length k1, .slice b2 Ms.length k2, .slice b3 Ts.length k3]) (by simp [results, Tryz.results10, go_sem, r0, r1, r2]) rfl ⟨_, _, _, _, _, _, rfl, ?_, ?_, ?_, ?_⟩
  · repeat (refine Below.setCell ?_ (by simp only []; omega) _)
    exact HB3.out
  · refine ShsAt.mono (lo := w.heap.size + 3) ?_ (by omega)
    repeat (refine ShsAt.set' ?_ (by simp only []; omega) _)
    exact HS3.out
  · refine MdsAt.mono (lo := w.heap.size + 3) ?_ (by omega)
    repeat (refine MdsAt.setCell ?_ (by simp only []; omega) _)
    exact HM3.out
  · refine TmsAt.mono (lo := w.heap.size + 3) ?_ (by omega)
    repeat (refine TmsAt.setCell ?_ (by simp only []; omega) _)
    exact HT3.out
end
end Go.Proofs.YtfohnageehneoaaGreat

namespace Go.Proofs.YtfohnageehneoaaGreat
open Go.RowKit Go.Deep

end Go.Proofs.YtfohnageehneoaaGreat

namespace Go.Proofs.YtfohnageehneoaaGreat
open Go.RowKit Go.Deep Go.Shelf

attribute [local go_sem] Oper.semAt_some

end Go.Proofs.YtfohnageehneoaaGreat

