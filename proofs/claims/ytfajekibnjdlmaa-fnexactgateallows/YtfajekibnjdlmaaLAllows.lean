import Derived.Test.YtfajekibnjdlmaaT10
namespace Go.Proofs.Ytfajekibnjdlmaa
open Go.RowKit Go.Deep

set_option maxRecDepth 20000 in
set_option maxHeartbeats 8000000 in
theorem law_allows (tv vv : Value) (Ts : List Tm) (r : Ru) (v : Int) (kind team name : ByteArray) (w : World) (hT : TmsAt 0 w tv Ts) (hv : IntsIn 0 w vv r.vb) (hz : RuSize r) (s1 : kind.size ≤ maxLen) (s2 : team.size ≤ maxLen) (s3 : name.size ≤ maxLen) :
    Calls Try.prog 5 #[tv, .agg #[vv, .string r.kd, .string r.tm, .string r.pf], .agg #[.int .i64 v, .string kind, .string team, .string name]] w fun e w' => e = .returned (.bool true) ∧ Below w.heap.size w w' := by
  have HT := hide hT
  have HV := hide hv
  have HZ := hide hz
  have S1 := hide s1
  have S2 := hide s2
  have S3 := hide s3
  obtain ⟨ta, tcap, rfl⟩ := hT.form
  obtain ⟨a, cap, rfl⟩ := hv.form
  clear hT hv hz s1 s2 s3
  go_enter Try.func5, Try.ntmps5
  go_wp2_with fail
  generalize hWa : (World.alloc (w.alloc _) _) = Wa
  have HBa : Hid (Below w.heap.size w Wa) := by rw [← hWa]; exact (one_al w _).alloc (by simp) _
  have FA : Hid (Box Wa w.heap.size #[.slice a r.vb.length cap, .string r.kd, .string r.tm, .string r.pf]) := by rw [← hWa]; exact (Box.new _ _ _ _ rfl).on (one_al _ _)
  have FB : Hid (Box Wa (w.heap.size + 1) #[.int .i64 v, .string kind, .string team, .string name]) := by rw [← hWa]; exact Box.new _ _ _ _ (by simp)
  clear hWa
  refine (szTms_any 0 _ Ts _ _ (by omega) (by omega) (HT.out.below HBa.out)).mono ?_
  rintro e w1 ⟨q, rfl, hb1, hr0, hr1, hr2⟩
  have HB1 : Hid (Below w.heap.size w w1) := bt HBa.out hb1
  replace FA := hide (FA.out.on hb1)
  replace FB := hide (FB.out.on hb1)
  have HQ := hide hr2
  clear hb1 hr2 HBa
  by_cases hneg : q < 0
  · go_wp2
    go_ret
    exact ⟨rfl, HB1.out⟩
  have hTm : Hid (Ts.length ≤ 1048576) := by have := HQ.out (by omega); unfold Hid; omega
  clear HQ hr0
  have g0 := FA.out.cell
  have gl := FA.out.lt
  go_wp2_with fail
  clear g0 gl
  refine (szRule_any 0 r _ _ _ (by omega) (by omega) (HV.out.below HB1.out) HZ.out).mono ?_
  rintro e w2 ⟨q2, rfl, hb2, hr0, hr2, hr3⟩
  have HB2 : Hid (Below w.heap.size w w2) := bt HB1.out hb2
  replace FA := hide (FA.out.on hb2)
  replace FB := hide (FB.out.on hb2)
  have HQ := hide hr3
  clear hb2 hr3 HB1
  by_cases hneg2 : q2 < 0
  · go_wp2
    go_ret
    exact ⟨rfl, HB2.out⟩
  have hVm : Hid (r.vb.length ≤ 1048576) := by have := HQ.out (by omega); unfold Hid; omega
  clear HQ hr0 hneg
  have g1 := FB.out.cell
  have gm := FB.out.lt
  go_wp2_with fail
  clear g1 gm
  refine (szAct_any v kind team name _ _ (by omega) (by omega) S1.out S2.out S3.out).mono ?_
  rintro e w3 ⟨q3, rfl, hb3, hr0, hr4⟩
  have HB3 : Hid (Below w.heap.size w w3) := bt HB2.out hb3
  replace FA := hide (FA.out.on hb3)
  replace FB := hide (FB.out.on hb3)
  clear hb3 HB2
  by_cases hneg3 : q3 < 0
  · go_wp2
    go_ret
    exact ⟨rfl, HB3.out⟩
  clear hneg2 hr0 hr1 hr2 hr4
  go_wp2
  clear hneg3
  have HT3 := hide (HT.out.below HB3.out)
  have HV3 := hide (HV.out.below HB3.out)
  go_region_held3 (Held2 w3 w.heap.size #[.slice a r.vb.length cap, .string r.kd, .string r.tm, .string r.pf] (w.heap.size + 1) #[.int .i64 v, .string kind, .string team, .string name])
    (first
      | (with_reducible exact Held2.drew FA.out FB.out)
      | (with_reducible exact Held2.on (by assumption) (by assumption)))
    (first
      | (go_at_call 9
         refine (toTms_any 0 _ Ts _ (HT3.out.below ((Below.refl _ _).drew)) hTm.out).mono ?_
         rintro e w4 ⟨v4, rfl, hb4, hs4⟩
         obtain ⟨a4, cap4, rfl⟩ := hs4.form
         have HC4 : Hid (Below w3.heap.size w3 w4) := bt ((Below.refl _ _).drew) hb4
         have HS4 := hide hs4
         clear hs4)
      | (go_at_call 17
         refine (toRule_any 0 r _ _ (HV3.out.below HC4.out) hVm.out).mono ?_
         rintro e w5 ⟨v5, rfl, hb5, hs5⟩
         obtain ⟨a5, cap5, rfl⟩ := hs5.form
         have HC5 : Hid (Below w3.heap.size w3 w5) := bt HC4.out hb5
         have HS45 := hide (HS4.out.below hb5)
         have HS5 := hide hs5
         clear hs5)
      | (go_at_call 18
         refine (toAct_any v kind team name _).mono ?_
         rintro e w6 ⟨rfl, hb6⟩
         have HC6 : Hid (Below w3.heap.size w3 w6) := bt HC5.out hb6
         have HS46 := hide (HS45.out.below hb6)
         have HS56 := hide (HS5.out.below hb6))
      | (go_at_call 16
         refine (specAllows_any _ _ _ _ Ts r v kind team name _ HS46.out HS56.out HZ.out).mono ?_
         rintro e w7 ⟨rfl, hb7⟩
         have HC7 : Hid (Below w3.heap.size w3 w7) := bt HC6.out hb7))
  replace FA := hide (FA.out.on HC7.out)
  replace FB := hide (FB.out.on HC7.out)
  have HB7 : Hid (Below w.heap.size w w7) := bt HB3.out HC7.out
  clear HB3 HC4 HC5 HC6 HC7 HS4 HS45 HS46 HS5 HS56 HT3 HV3
  go_wp2_with fail
  refine (toTms_any 0 _ Ts _ (HT.out.below HB7.out) hTm.out).mono ?_
  rintro e w8 ⟨v8, rfl, hb8, hs8⟩
  obtain ⟨a8, cap8, rfl⟩ := hs8.form
  have HB8 : Hid (Below w.heap.size w w8) := bt HB7.out hb8
  have HS8 := hide hs8
  replace FA := hide (FA.out.on hb8)
  replace FB := hide (FB.out.on hb8)
  clear hb8 hs8 HB7
  have g0 := FA.out.cell
  have gl := FA.out.lt
  go_wp2_with fail
  clear g0 gl
  refine (toRule_any 0 r _ _ (HV.out.below HB8.out) hVm.out).mono ?_
  rintro e w9 ⟨v9, rfl, hb9, hs9⟩
  obtain ⟨a9, cap9, rfl⟩ := hs9.form
  have HB9 : Hid (Below w.heap.size w w9) := bt HB8.out hb9
  have HS9 := hide hs9
  replace HS8 := hide (HS8.out.below hb9)
  replace FA := hide (FA.out.on hb9)
  replace FB := hide (FB.out.on hb9)
  clear hb9 hs9 HB8
  go_wp2
  generalize hWx : w9.alloc _ = Wx
  have hbx : Below w9.heap.size w9 Wx := by rw [← hWx]; exact one_al _ _
  have FX : Hid (Box Wx w9.heap.size #[.slice a9 r.vb.length cap9, .string r.kd, .string r.tm, .string r.pf]) := by rw [← hWx]; exact Box.new _ _ _ _ rfl
  have HBx : Hid (Below w.heap.size w Wx) := bt HB9.out hbx
  replace FA := hide (FA.out.on hbx)
  replace FB := hide (FB.out.on hbx)
  replace HS8 := hide (HS8.out.below hbx)
  replace HS9 := hide (HS9.out.below hbx)
  clear hWx hbx HB9
  generalize hbeta : w9.heap.size = β at *
  go_region_held3 (Held2 Wx β #[.slice a9 r.vb.length cap9, .string r.kd, .string r.tm, .string r.pf] (w.heap.size + 1) #[.int .i64 v, .string kind, .string team, .string name])
    (first
      | (with_reducible exact Held2.drew FX.out FB.out)
      | (with_reducible exact Held2.on (by assumption) (by assumption)))
    (first
      | (go_at_call 18
         refine (toAct_any v kind team name _).mono ?_
         rintro e wa ⟨rfl, hba⟩
         have HC6 : Hid (Below Wx.heap.size Wx wa) := bt ((Below.refl _ _).drew) hba)
      | (go_at_call 19
         refine (implAllows_any _ _ _ _ Ts r v kind team name _ (HS8.out.below HC6.out) (HS9.out.below HC6.out) HZ.out).mono ?_
         rintro e wb ⟨rfl, hbb⟩
         have HC7 : Hid (Below Wx.heap.size Wx wb) := bt HC6.out hbb))
  replace FA := hide (FA.out.on HC7.out)
  replace FX := hide (FX.out.on HC7.out)
  have HBb : Hid (Below w.heap.size w wb) := bt HBx.out HC7.out
  replace HS8 := hide (HS8.out.below HC7.out)
  replace HS9 := hide (HS9.out.below HC7.out)
  clear HBx HC6 HC7 FB
  generalize hQ : allowsB Ts r v kind team name = Q
  clear hQ
  go_wp2_with fail
  refine (toTms_any 0 _ Ts _ (HT.out.below HBb.out) hTm.out).mono ?_
  rintro e wc ⟨vc, rfl, hbc, hsc⟩
  have HBc : Hid (Below w.heap.size w wc) := bt HBb.out hbc
  have HSc := hide hsc
  replace HS8 := hide (HS8.out.below hbc)
  replace HS9 := hide (HS9.out.below hbc)
  replace FA := hide (FA.out.on hbc)
  replace FX := hide (FX.out.on hbc)
  clear hbc hsc HBb
  go_wp2_with fail
  refine (eqTms_same _ _ _ _ Ts _ HS8.out HSc.out).mono ?_
  rintro e wd ⟨rfl, hbd⟩
  have HBd : Hid (Below w.heap.size w wd) := bt HBc.out hbd
  replace HS9 := hide (HS9.out.below hbd)
  replace FA := hide (FA.out.on hbd)
  replace FX := hide (FX.out.on hbd)
  clear hbd HBc HS8 HSc
  have HVd := hide (HV.out.below HBd.out)
  go_wp2
  go_region_held3 (Held2 wd β #[.slice a9 r.vb.length cap9, .string r.kd, .string r.tm, .string r.pf] w.heap.size #[.slice a r.vb.length cap, .string r.kd, .string r.tm, .string r.pf])
    (first
      | (with_reducible exact Held2.drew FX.out FA.out)
      | (with_reducible exact Held2.on (by assumption) (by assumption)))
    (first
      | (go_at_call 17
         refine (toRule_any 0 r _ _ (HVd.out.below ((Below.refl _ _).drew)) hVm.out).mono ?_
         rintro e we ⟨ve, rfl, hbe, hse⟩
         obtain ⟨ae, cape, rfl⟩ := hse.form
         have HC8 : Hid (Below wd.heap.size wd we) := bt ((Below.refl _ _).drew) hbe
         have HSe := hide hse
         clear hse)
      | (go_at_call 20
         refine (eqRule_same _ _ r _ _ _ (HS9.out.below HC8.out) HSe.out).mono ?_
         rintro e wf ⟨rfl, hbf⟩
         have HC9 : Hid (Below wd.heap.size wd wf) := bt HC8.out hbf))
  go_wp2
  go_ret
  exact ⟨rfl, bt HBd.out HC9.out⟩
end Go.Proofs.Ytfajekibnjdlmaa
