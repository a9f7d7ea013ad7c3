import Derived.Test.YtlnlodleokobeaaGreatAGL
import Derived.Deep.RegionHeld3
import Derived.Test.YtlnlodleokobeaaGreatADA
import Derived.Test.YtlnlodleokobeaaGreatASA
import Derived.Test.YtlnlodleokobeaaGreatAKA
import Derived.Test.YtlnlodleokobeaaGreatAN12
import Derived.Test.YtlnlodleokobeaaGreatAK1
import Derived.Test.YtlnlodleokobeaaGreatAL1
import Derived.Test.YtlnlodleokobeaaGreatAP1
import Derived.Test.YtlnlodleokobeaaGreatANA
import Derived.Test.YtlnlodleokobeaaGreatAN2
import Derived.Test.YtlnlodleokobeaaGreatAWB
import Derived.Test.YtlnlodleokobeaaGreatAC2
import Derived.Test.YtlnlodleokobeaaGreatAT1
import Derived.Test.YtlnlodleokobeaaGreatAM2
import Derived.Test.YtlnlodleokobeaaGreatAWA
namespace Go.Proofs.YtlnlodleokobeaaGreat
open Go.RowKit Go.Deep

set_option maxRecDepth 20000 in
set_option maxHeartbeats 8000000 in
theorem law_lawok (sv mv tv : Value) (Ss : List Sh) (Ms : List Md) (Ts : List Tm) (w : World) (hL : LawAt 0 w sv mv tv Ss Ms Ts) :
    Calls Tryz.prog 3 #[.agg #[sv, mv, tv]] w fun e w' => e = .returned (.bool true) ∧ Below w.heap.size w w' := by
  have HL := hide hL
  obtain ⟨a, cap, rfl⟩ := hL.shs.form
  obtain ⟨a1, cap1, rfl⟩ := hL.mds.form
  obtain ⟨a2, cap2, rfl⟩ := hL.tms.form
  clear hL
  go_enter Tryz.func3, Tryz.ntmps3
  go_wp2_with fail
  generalize hWa : w.alloc _ = Wa
  have HBa : Hid (Below w.heap.size w Wa) := by rw [← hWa]; exact one_al w _
  have FA : Hid (Box Wa w.heap.size #[.slice a Ss.length cap, .slice a1 Ms.length cap1, .slice a2 Ts.length cap2]) := by rw [← hWa]; exact Box.new _ _ _ _ rfl
  clear hWa
  refine (szLaw_any 0 _ _ _ Ss Ms Ts _ _ (by omega) (by omega) (HL.out.below HBa.out)).mono ?_
  rintro e w1 ⟨q, rfl, hb1, hr0, hr1, hr2⟩
  have HB1 : Hid (Below w.heap.size w w1) := bt HBa.out hb1
  replace FA := hide (FA.out.on hb1)
  have HQ := hide hr2
  clear hb1 hr2 HBa
  by_cases hneg : q < 0
  · go_wp2
    go_ret
    exact ⟨rfl, HB1.out⟩
  have hLm : Hid (LawSmall Ss Ms Ts) := HQ.out (by omega)
  clear HQ hr0 hr1
  have g0 := FA.out.cell
  have gl := FA.out.lt
  go_wp2_with fail
  clear g0 gl hneg
  refine (toLaw_any 0 _ _ _ Ss Ms Ts _ (HL.out.below HB1.out) hLm.out).mono ?_
  rintro e w4 ⟨b, c0, b1, c1, b2, c2, rfl, hb4, hs4⟩
  have HB4 : Hid (Below w.heap.size w w4) := bt HB1.out hb4
  replace FA := hide (FA.out.on hb4)
  have HS4 := hide hs4
  clear hs4 hb4 HB1
  go_wp2_with fail
  refine (specLawOk_any _ _ _ _ Ss Ms Ts _ HS4.out).mono ?_
  rintro e w7 ⟨rfl, hb7⟩
  replace FA := hide (FA.out.on hb7)
  have HB7 : Hid (Below w.heap.size w w7) := bt HB4.out hb7
  clear HS4 HB4 hb7
  have g0 := FA.out.cell
  have gl := FA.out.lt
  go_wp2_with fail
  clear g0 gl
  refine (toLaw_any 0 _ _ _ Ss Ms Ts _ (HL.out.below HB7.out) hLm.out).mono ?_
  rintro e w8 ⟨b, c0, b1, c1, b2, c2, rfl, hb8, hs8⟩
  have HB8 : Hid (Below w.heap.size w w8) := bt HB7.out hb8
  have HS8 := hide hs8
  replace FA := hide (FA.out.on hb8)
  clear hb8 hs8 HB7
  go_wp2_with fail
  generalize hWx : w8.alloc _ = Wx
  have hbx : Below w8.heap.size w8 Wx := by rw [← hWx]; exact one_al _ _
  have FX : Hid (Box Wx w8.heap.size #[.slice b Ss.length c0, .slice b1 Ms.length c1, .slice b2 Ts.length c2]) := by rw [← hWx]; exact Box.new _ _ _ _ rfl
  have HBx : Hid (Below w.heap.size w Wx) := bt HB8.out hbx
  replace FA := hide (FA.out.on hbx)
  replace HS8 := hide (HS8.out.below hbx)
  clear hWx hbx HB8
  generalize hbeta : w8.heap.size = β at *
  refine (implLawOk_any _ _ _ _ Ss Ms Ts _ HS8.out).mono ?_
  rintro e wb ⟨rfl, hbb⟩
  have HBb : Hid (Below w.heap.size w wb) := bt HBx.out hbb
  replace FA := hide (FA.out.on hbb)
  replace FX := hide (FX.out.on hbb)
  replace HS8 := hide (HS8.out.below hbb)
  clear hbb HBx
  generalize hQ : lawB Ss Ms Ts = Q
  clear hQ
  have HLb := hide (HL.out.below HBb.out)
  go_wp2
  go_region_held3 (Held2 wb β #[.slice b Ss.length c0, .slice b1 Ms.length c1, .slice b2 Ts.length c2] w.heap.size #[.slice a Ss.length cap, .slice a1 Ms.length cap1, .slice a2 Ts.length cap2])
    (first
      | (with_reducible exact Held2.drew FX.out FA.out)
      | (with_reducible exact Held2.on (by assumption) (by assumption)))
    (first
      | (go_at_call 9
         refine (toLaw_any 0 _ _ _ Ss Ms Ts _ (HLb.out.below ((Below.refl _ _).drew)) hLm.out).mono ?_
         rintro e we ⟨d, f0, d1, f1, d2, f2, rfl, hbe, hse⟩
         have HC8 : Hid (Below wb.heap.size wb we) := bt ((Below.refl _ _).drew) hbe
         have HSe := hide hse
         clear hse)
      | (go_at_call 11
         refine (eqLaw_same _ _ _ _ Ss Ms Ts _ _ _ _ _ (HS8.out.below HC8.out) HSe.out).mono ?_
         rintro e wf ⟨rfl, hbf⟩
         have HC9 : Hid (Below wb.heap.size wb wf) := bt HC8.out hbf))
  go_wp2
  go_ret
  exact ⟨rfl, bt HBb.out HC9.out⟩
end Go.Proofs.YtlnlodleokobeaaGreat

