import Derived.Test.YtfajekibnjdlmaaT13
namespace Go.Proofs.Ytfajekibnjdlmaa
open Go.RowKit Go.Deep

set_option maxRecDepth 20000 in
set_option maxHeartbeats 8000000 in
theorem law_covers (tv sv vv : Value) (Ts : List Tm) (Rs : List Ru) (r : Ru) (w : World) (hT : TmsAt 0 w tv Ts) (hR : RusAt 0 w sv Rs) (hv : IntsIn 0 w vv r.vb) (hz : RuSize r) :
    Calls Try.prog 6 #[tv, sv, .agg #[vv, .string r.kd, .string r.tm, .string r.pf]] w fun e w' => e = .returned (.bool true) ∧ Below w.heap.size w w' := by
  have HT := hide hT
  have HR := hide hR
  have HV := hide hv
  have HZ := hide hz
  obtain ⟨ta, tcap, rfl⟩ := hT.form
  obtain ⟨sa, scap, rfl⟩ := hR.form
  obtain ⟨a, cap, rfl⟩ := hv.form
  clear hT hR hv hz
  go_enter Try.func6, Try.ntmps6
  go_wp2_with fail
  generalize hWa : w.alloc _ = Wa
  have HBa : Hid (Below w.heap.size w Wa) := by rw [← hWa]; exact one_al _ _
  have FA : Hid (Box Wa w.heap.size #[.slice a r.vb.length cap, .string r.kd, .string r.tm, .string r.pf]) := by rw [← hWa]; exact Box.new _ _ _ _ rfl
  clear hWa
  refine (szTms_any 0 _ Ts _ _ (by omega) (by omega) (HT.out.below HBa.out)).mono ?_
  rintro e w1 ⟨q, rfl, hb1, hr0, hr1, hr2⟩
  have HB1 : Hid (Below w.heap.size w w1) := bt HBa.out hb1
  replace FA := hide (FA.out.on hb1)
  have HQ := hide hr2
  clear hb1 hr2 HBa
  by_cases hneg : q < 0
  · go_wp2
    go_ret
    exact ⟨rfl, HB1.out⟩
  have hTm : Hid (Ts.length ≤ 1048576) := by have := HQ.out (by omega); unfold Hid; omega
  clear HQ hr0
  go_wp2_with fail
  refine (szRus_any 0 _ Rs _ _ (by omega) (by omega) (HR.out.below HB1.out)).mono ?_
  rintro e w2 ⟨q2, rfl, hb2, hr0, hr2, hr3⟩
  have HB2 : Hid (Below w.heap.size w w2) := bt HB1.out hb2
  replace FA := hide (FA.out.on hb2)
  have HQ := hide hr3
  clear hb2 hr3 HB1
  by_cases hneg2 : q2 < 0
  · go_wp2
    go_ret
    exact ⟨rfl, HB2.out⟩
  have hRm : Hid (RusSmall Rs) := HQ.out (by omega)
  clear HQ hr0 hneg
  have g0 := FA.out.cell
  have gl := FA.out.lt
  go_wp2_with fail
  clear g0 gl
  refine (szRule_any 0 r _ _ _ (by omega) (by omega) (HV.out.below HB2.out) HZ.out).mono ?_
  rintro e w3 ⟨q3, rfl, hb3, hr0, hr4, hr5⟩
  have HB3 : Hid (Below w.heap.size w w3) := bt HB2.out hb3
  replace FA := hide (FA.out.on hb3)
  have HQ := hide hr5
  clear hb3 hr5 HB2
  by_cases hneg3 : q3 < 0
  · go_wp2
    go_ret
    exact ⟨rfl, HB3.out⟩
  have hVm : Hid (r.vb.length ≤ 1048576) := by have := HQ.out (by omega); unfold Hid; omega
  clear HQ hneg2 hr0 hr1 hr2 hr4
  go_wp2
  clear hneg3
  have HT3 := hide (HT.out.below HB3.out)
  have HR3 := hide (HR.out.below HB3.out)
  have HV3 := hide (HV.out.below HB3.out)
  go_region_held3 (Held2 w3 w.heap.size #[.slice a r.vb.length cap, .string r.kd, .string r.tm, .string r.pf] w.heap.size #[.slice a r.vb.length cap, .string r.kd, .string r.tm, .string r.pf])
    (first
      | (with_reducible exact Held2.drew FA.out FA.out)
      | (with_reducible exact Held2.on (by assumption) (by assumption)))
    (first
      | (go_at_call 9
         refine (toTms_any 0 _ Ts _ (HT3.out.below ((Below.refl _ _).drew)) hTm.out).mono ?_
         rintro e w4 ⟨v4, rfl, hb4, hs4⟩
         obtain ⟨a4, cap4, rfl⟩ := hs4.form
         have HC4 : Hid (Below w3.heap.size w3 w4) := bt ((Below.refl _ _).drew) hb4
         have HS4 := hide hs4
         clear hs4)
      | (go_at_call 23
         refine (toRus_any 0 _ Rs _ (HR3.out.below HC4.out) hRm.out).mono ?_
         rintro e w5 ⟨v5, rfl, hb5, hs5⟩
         obtain ⟨a5, cap5, rfl⟩ := hs5.form
         have HC5 : Hid (Below w3.heap.size w3 w5) := bt HC4.out hb5
         have HS45 := hide (HS4.out.below hb5)
         have HS5 := hide hs5
         clear hs5)
      | (go_at_call 17
         refine (toRule_any 0 r _ _ (HV3.out.below HC5.out) hVm.out).mono ?_
         rintro e w6 ⟨v6, rfl, hb6, hs6⟩
         obtain ⟨a6, cap6, rfl⟩ := hs6.form
         have HC6 : Hid (Below w3.heap.size w3 w6) := bt HC5.out hb6
         have HS46 := hide (HS45.out.below hb6)
         have HS56 := hide (HS5.out.below hb6)
         have HS6 := hide hs6
         clear hs6)
      | (go_at_call 22
         refine (specCovers_any _ _ _ _ _ _ Ts Rs r _ HS46.out HS56.out HS6.out HZ.out).mono ?_
         rintro e w7 ⟨rfl, hb7⟩
         have HC7 : Hid (Below w3.heap.size w3 w7) := bt HC6.out hb7))
  replace FA := hide (FA.out.on HC7.out)
  have HB7 : Hid (Below w.heap.size w w7) := bt HB3.out HC7.out
  clear HB3 HC4 HC5 HC6 HC7 HS4 HS45 HS46 HS5 HS56 HS6 HT3 HR3 HV3
  go_wp2_with fail
  refine (toTms_any 0 _ Ts _ (HT.out.below HB7.out) hTm.out).mono ?_
  rintro e w8 ⟨v8, rfl, hb8, hs8⟩
  obtain ⟨a8, cap8, rfl⟩ := hs8.form
  have HB8 : Hid (Below w.heap.size w w8) := bt HB7.out hb8
  have HS8 := hide hs8
  replace FA := hide (FA.out.on hb8)
  clear hb8 hs8 HB7
  go_wp2_with fail
  refine (toRus_any 0 _ Rs _ (HR.out.below HB8.out) hRm.out).mono ?_
  rintro e wr ⟨vr, rfl, hbr, hsr⟩
  obtain ⟨ar, capr, rfl⟩ := hsr.form
  have HBr : Hid (Below w.heap.size w wr) := bt HB8.out hbr
  have HSr := hide hsr
  replace HS8 := hide (HS8.out.below hbr)
  replace FA := hide (FA.out.on hbr)
  clear hbr hsr HB8
  have g0 := FA.out.cell
  have gl := FA.out.lt
  go_wp2_with fail
  clear g0 gl
  refine (toRule_any 0 r _ _ (HV.out.below HBr.out) hVm.out).mono ?_
  rintro e w9 ⟨v9, rfl, hb9, hs9⟩
  obtain ⟨a9, cap9, rfl⟩ := hs9.form
  have HB9 : Hid (Below w.heap.size w w9) := bt HBr.out hb9
  have HS9 := hide hs9
  replace HS8 := hide (HS8.out.below hb9)
  replace HSr := hide (HSr.out.below hb9)
  replace FA := hide (FA.out.on hb9)
  clear hb9 hs9 HBr
  go_wp2_with fail
  generalize hWx : w9.alloc _ = Wx
  have hbx : Below w9.heap.size w9 Wx := by rw [← hWx]; exact one_al _ _
  have FX : Hid (Box Wx w9.heap.size #[.slice a9 r.vb.length cap9, .string r.kd, .string r.tm, .string r.pf]) := by rw [← hWx]; exact Box.new _ _ _ _ rfl
  have HBx : Hid (Below w.heap.size w Wx) := bt HB9.out hbx
  replace FA := hide (FA.out.on hbx)
  replace HS8 := hide (HS8.out.below hbx)
  replace HSr := hide (HSr.out.below hbx)
  replace HS9 := hide (HS9.out.below hbx)
  clear hWx hbx HB9
  generalize hbeta : w9.heap.size = β at *
  refine (implCovers_any _ _ _ _ _ _ Ts Rs r _ HS8.out HSr.out HS9.out HZ.out).mono ?_
  rintro e wb ⟨rfl, hbb⟩
  replace FA := hide (FA.out.on hbb)
  replace FX := hide (FX.out.on hbb)
  have HBb : Hid (Below w.heap.size w wb) := bt HBx.out hbb
  replace HS8 := hide (HS8.out.below hbb)
  replace HSr := hide (HSr.out.below hbb)
  replace HS9 := hide (HS9.out.below hbb)
  clear HBx hbb
  generalize hQ : coversB Ts Rs r = Q
  clear hQ
  go_wp2_with fail
  refine (toTms_any 0 _ Ts _ (HT.out.below HBb.out) hTm.out).mono ?_
  rintro e wc ⟨vc, rfl, hbc, hsc⟩
  have HBc : Hid (Below w.heap.size w wc) := bt HBb.out hbc
  have HSc := hide hsc
  replace HS8 := hide (HS8.out.below hbc)
  replace HSr := hide (HSr.out.below hbc)
  replace HS9 := hide (HS9.out.below hbc)
  replace FA := hide (FA.out.on hbc)
  replace FX := hide (FX.out.on hbc)
  clear hbc hsc HBb
  go_wp2_with fail
  refine (eqTms_same _ _ _ _ Ts _ HS8.out HSc.out).mono ?_
  rintro e wd ⟨rfl, hbd⟩
  have HBd : Hid (Below w.heap.size w wd) := bt HBc.out hbd
  replace HSr := hide (HSr.out.below hbd)
  replace HS9 := hide (HS9.out.below hbd)
  replace FA := hide (FA.out.on hbd)
  replace FX := hide (FX.out.on hbd)
  clear hbd HBc HS8 HSc
  go_wp2_with fail
  refine (toRus_any 0 _ Rs _ (HR.out.below HBd.out) hRm.out).mono ?_
  rintro e we ⟨ve, rfl, hbe, hse⟩
  have HBe : Hid (Below w.heap.size w we) := bt HBd.out hbe
  have HSe := hide hse
  replace HSr := hide (HSr.out.below hbe)
  replace HS9 := hide (HS9.out.below hbe)
  replace FA := hide (FA.out.on hbe)
  replace FX := hide (FX.out.on hbe)
  clear hbe hse HBd
  go_wp2_with fail
  refine (eqRus_same _ _ _ _ Rs _ HSr.out HSe.out).mono ?_
  rintro e wf ⟨rfl, hbf⟩
  have HBf : Hid (Below w.heap.size w wf) := bt HBe.out hbf
  replace HS9 := hide (HS9.out.below hbf)
  replace FA := hide (FA.out.on hbf)
  replace FX := hide (FX.out.on hbf)
  clear hbf HBe HSr HSe
  have HVf := hide (HV.out.below HBf.out)
  go_wp2
  go_region_held3 (Held2 wf β #[.slice a9 r.vb.length cap9, .string r.kd, .string r.tm, .string r.pf] w.heap.size #[.slice a r.vb.length cap, .string r.kd, .string r.tm, .string r.pf])
    (first
      | (with_reducible exact Held2.drew FX.out FA.out)
      | (with_reducible exact Held2.on (by assumption) (by assumption)))
    (first
      | (go_at_call 17
         refine (toRule_any 0 r _ _ (HVf.out.below ((Below.refl _ _).drew)) hVm.out).mono ?_
         rintro e wg ⟨vg, rfl, hbg, hsg⟩
         obtain ⟨ag, capg, rfl⟩ := hsg.form
         have HC8 : Hid (Below wf.heap.size wf wg) := bt ((Below.refl _ _).drew) hbg
         have HSg := hide hsg
         clear hsg)
      | (go_at_call 20
         refine (eqRule_same _ _ r _ _ _ (HS9.out.below HC8.out) HSg.out).mono ?_
         rintro e wh ⟨rfl, hbh⟩
         have HC9 : Hid (Below wf.heap.size wf wh) := bt HC8.out hbh))
  go_wp2
  go_ret
  exact ⟨rfl, bt HBf.out HC9.out⟩
end Go.Proofs.Ytfajekibnjdlmaa
