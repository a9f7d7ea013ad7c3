import Derived.Test.YtlgakpnjicdblabN13
import Derived.Test.YtlgakpnjicdblabN2
namespace Go.Proofs.Ytlgakpnjicdblab
open Go.RowKit Go.Deep

set_option maxRecDepth 20000 in
set_option maxHeartbeats 2000000 in
theorem law_mends (sv mv : Value) (Ss : List Sh) (Ms : List Md) (w : World) (hS : ShsAt 0 w sv Ss) (hM : MdsAt 0 w mv Ms) :
    Calls Try.prog 3 #[sv, mv] w fun e w' => e = .returned (.bool true) ∧ Below w.heap.size w w' := by
  have HV := hide hS
  have HM := hide hM
  obtain ⟨a, cap, rfl⟩ := hS.form
  obtain ⟨ma, mcap, rfl⟩ := hM.form
  clear hS hM
  go_enter Try.func3, Try.ntmps3
  go_wp2_with fail
  refine (szShs_any 0 _ Ss _ _ (by omega) (by omega) HV.out).mono ?_
  rintro e w1 ⟨r, rfl, hb1, hr0, hr1, hr2⟩
  have HB1 := hide hb1
  have HQ := hide hr2
  clear hb1 hr2
  by_cases hneg : r < 0
  · go_wp2
    go_ret
    exact ⟨rfl, HB1.out⟩
  have hSm : Hid (ShsSmall Ss) := HQ.out (by omega)
  clear HQ
  go_wp2_with fail
  refine (szMds_any 0 _ Ms _ _ (by omega) (by omega) (HM.out.below HB1.out)).mono ?_
  rintro e w2 ⟨r2, rfl, hb2, hq0, hq1, hq2⟩
  have HB2 : Hid (Below w.heap.size w w2) := HB1.out.trans (hb2.mono HB1.out.size)
  have HQ := hide hq2
  clear hb2 hq2 HB1
  by_cases hneg2 : r2 < 0
  · go_wp2
    go_ret
    exact ⟨rfl, HB2.out⟩
  have hMm : Hid (Ms.length ≤ 1048576) := by have := HQ.out (by omega); unfold Hid; omega
  clear HQ hneg hr0 hr1 hq0 hq1
  go_wp2_with fail
  clear hneg2
  refine (toShs_any 0 _ Ss _ (HV.out.below HB2.out) hSm.out).mono ?_
  rintro e w3 ⟨v3, rfl, hb3, hs3⟩
  have HB3 : Hid (Below w.heap.size w w3) := HB2.out.trans (hb3.mono HB2.out.size)
  have HS3 := hide hs3
  clear hb3 hs3 HB2
  go_wp2_with fail
  refine (toMds_any 0 _ Ms _ (HM.out.below HB3.out) hMm.out).mono ?_
  rintro e w4 ⟨v4, rfl, hb4, hs4⟩
  have HB4 : Hid (Below w.heap.size w w4) := HB3.out.trans (hb4.mono HB3.out.size)
  have HS4 := hide (HS3.out.below hb4)
  have HM4 := hide hs4
  clear hb4 hs4 HB3 HS3
  go_wp2_with fail
  refine (specMends_any _ _ _ _ Ss Ms _ HS4.out HM4.out).mono ?_
  rintro e w5 ⟨rfl, hb5⟩
  have HB5 : Hid (Below w.heap.size w w5) := HB4.out.trans (hb5.mono HB4.out.size)
  clear hb5 HS4 HM4 HB4
  go_wp2_with fail
  refine (toShs_any 0 _ Ss _ (HV.out.below HB5.out) hSm.out).mono ?_
  rintro e w6 ⟨v6, rfl, hb6, hs6⟩
  have HB6 : Hid (Below w.heap.size w w6) := HB5.out.trans (hb6.mono HB5.out.size)
  have HS6 := hide hs6
  clear hb6 hs6 HB5
  go_wp2_with fail
  refine (toMds_any 0 _ Ms _ (HM.out.below HB6.out) hMm.out).mono ?_
  rintro e w7 ⟨v7, rfl, hb7, hs7⟩
  have HB7 : Hid (Below w.heap.size w w7) := HB6.out.trans (hb7.mono HB6.out.size)
  have HS7 := hide (HS6.out.below hb7)
  have HM7 := hide hs7
  clear hb7 hs7 HB6 HS6
  go_wp2_with fail
  refine (implMends_any _ _ _ _ Ss Ms _ HS7.out HM7.out).mono ?_
  rintro e w8 ⟨rfl, hb8⟩
  have HB8 : Hid (Below w.heap.size w w8) := HB7.out.trans (hb8.mono HB7.out.size)
  have HS8 := hide (HS7.out.below hb8)
  have HM8 := hide (HM7.out.below hb8)
  clear hb8 HS7 HM7 HB7
  generalize hQ : mendsB Ss Ms = Q
  clear hQ
  go_wp2_with fail
  refine (toShs_any 0 _ Ss _ (HV.out.below HB8.out) hSm.out).mono ?_
  rintro e w9 ⟨v9, rfl, hb9, hs9⟩
  have HB9 : Hid (Below w.heap.size w w9) := HB8.out.trans (hb9.mono HB8.out.size)
  have HS9 := hide hs9
  have HS8 := hide (HS8.out.below hb9)
  have HM8 := hide (HM8.out.below hb9)
  clear hb9 hs9 HB8
  go_wp2_with fail
  refine (eqShs_same _ _ _ _ Ss _ HS8.out HS9.out).mono ?_
  rintro e w10 ⟨rfl, hb10⟩
  have HB10 : Hid (Below w.heap.size w w10) := HB9.out.trans (hb10.mono HB9.out.size)
  have HM8 := hide (HM8.out.below hb10)
  clear hb10 HS8 HS9 HB9
  go_wp2_with fail
  refine (toMds_any 0 _ Ms _ (HM.out.below HB10.out) hMm.out).mono ?_
  rintro e w11 ⟨v11, rfl, hb11, hs11⟩
  have HB11 : Hid (Below w.heap.size w w11) := HB10.out.trans (hb11.mono HB10.out.size)
  have HM11 := hide hs11
  have HM8 := hide (HM8.out.below hb11)
  clear hb11 hs11 HB10
  go_wp2_with fail
  refine (eqMds_same _ _ _ _ Ms _ HM8.out HM11.out).mono ?_
  rintro e w12 ⟨rfl, hb12⟩
  have HB12 : Hid (Below w.heap.size w w12) := HB11.out.trans (hb12.mono HB11.out.size)
  clear hb12 HM8 HM11 HB11
  go_wp2
  go_ret
  exact ⟨rfl, HB12.out⟩
end Go.Proofs.Ytlgakpnjicdblab
