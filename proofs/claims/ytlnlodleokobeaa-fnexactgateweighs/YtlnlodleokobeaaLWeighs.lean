import Derived.Test.YtlnlodleokobeaaG4
import Derived.Deep.RegionHeld3
namespace Go.Proofs.Ytlnlodleokobeaa
open Go.RowKit Go.Deep

set_option maxRecDepth 20000 in
set_option maxHeartbeats 8000000 in
theorem law_weighs (sv mv tv vv hv : Value) (Ss : List Sh) (Ms : List Md) (Ts : List Tm) (kind nm team : ByteArray) (en : Bool) (ver : Int) (V Ho : List ByteArray) (r : ByteArray) (w : World)
    (hL : LawAt 0 w sv mv tv Ss Ms Ts) (hV : StrsAt w vv V) (hH : StrsAt w hv Ho) (s1 : kind.size ≤ maxLen) (s2 : nm.size ≤ maxLen) (s3 : team.size ≤ maxLen) (s4 : r.size ≤ maxLen) :
    Calls Try.prog 3 #[.agg #[sv, mv, tv], .agg #[.string kind, .string nm, .string team, vv, .bool en, hv, .int .i64 ver], .string r] w fun e w' => e = .returned (.bool true) ∧ Below w.heap.size w w' := by
  have HL := hide hL
  have HV := hide hV
  have HH := hide hH
  have S1 := hide s1
  have S2 := hide s2
  have S3 := hide s3
  obtain ⟨a, cap, rfl⟩ := hL.shs.form
  obtain ⟨a1, cap1, rfl⟩ := hL.mds.form
  obtain ⟨a2, cap2, rfl⟩ := hL.tms.form
  obtain ⟨va, vcap, rfl⟩ := hV.form'
  obtain ⟨ha, hcap, rfl⟩ := hH.form'
  clear hL hV hH s1 s2 s3
  unfold maxLen at s4
  by_cases hr : 1048576 < r.size
  · go_enter Try.func3, Try.ntmps3
    go_wp2
    go_ret
    exact ⟨rfl, (one_al w _).alloc (by simp) _⟩
  go_enter Try.func3, Try.ntmps3
  go_wp2_with fail
  clear hr s4
  generalize hWa : (World.alloc (w.alloc _) _) = Wa
  have HBa : Hid (Below w.heap.size w Wa) := by rw [← hWa]; exact (one_al w _).alloc (by simp) _
  have FA : Hid (Box Wa w.heap.size #[.slice a Ss.length cap, .slice a1 Ms.length cap1, .slice a2 Ts.length cap2]) := by rw [← hWa]; exact (Box.new _ _ _ _ rfl).on (one_al _ _)
  have FB : Hid (Box Wa (w.heap.size + 1) #[.string kind, .string nm, .string team, .slice va V.length vcap, .bool en, .slice ha Ho.length hcap, .int .i64 ver]) := by rw [← hWa]; exact Box.new _ _ _ _ (by simp)
  clear hWa
  refine (szLaw_any 0 _ _ _ Ss Ms Ts _ _ (by omega) (by omega) (HL.out.below HBa.out)).mono ?_
  rintro e w1 ⟨q, rfl, hb1, hr0, hr1, hr2⟩
  have HB1 : Hid (Below w.heap.size w w1) := bt HBa.out hb1
  replace FA := hide (FA.out.on hb1)
  replace FB := hide (FB.out.on hb1)
  have HQ := hide hr2
  clear hb1 hr2 HBa
  by_cases hneg : q < 0
  · go_wp2
    go_ret
    exact ⟨rfl, HB1.out⟩
  have hLm : Hid (LawSmall Ss Ms Ts) := HQ.out (by omega)
  clear HQ hr0
  have g1 := FB.out.cell
  have gm := FB.out.lt
  go_wp2_with fail
  clear g1 gm
  refine (szObj_any kind nm team _ _ en ver V Ho _ _ (HV.out.below HB1.out) (HH.out.below HB1.out) (by omega) (by omega) S1.out S2.out S3.out).mono ?_
  rintro e w2 ⟨q2, rfl, hb2, hr0, hr2, hr3⟩
  have HB3 : Hid (Below w.heap.size w w2) := bt HB1.out hb2
  replace FA := hide (FA.out.on hb2)
  replace FB := hide (FB.out.on hb2)
  have HQ := hide hr3
  clear hb2 hr3 HB1
  by_cases hneg2 : q2 < 0
  · go_wp2
    go_ret
    exact ⟨rfl, HB3.out⟩
  have hVm : Hid (V.length ≤ 1048576) := by have := HQ.out (by omega); unfold Hid; omega
  have hHm : Hid (Ho.length ≤ 1048576) := by have := HQ.out (by omega); unfold Hid; omega
  clear HQ hr0 hr1 hr2 hneg
  go_wp2
  clear hneg2
  have HL3 := hide (HL.out.below HB3.out)
  have HV3 := hide (HV.out.below HB3.out)
  have HH3 := hide (HH.out.below HB3.out)
  go_region_held3 (Held2 w2 w.heap.size #[.slice a Ss.length cap, .slice a1 Ms.length cap1, .slice a2 Ts.length cap2] (w.heap.size + 1) #[.string kind, .string nm, .string team, .slice va V.length vcap, .bool en, .slice ha Ho.length hcap, .int .i64 ver])
    (first
      | (with_reducible exact Held2.drew FA.out FB.out)
      | (with_reducible exact Held2.on (by assumption) (by assumption)))
    (first
      | (go_at_call 8
         refine (toLaw_any 0 _ _ _ Ss Ms Ts _ (HL3.out.below ((Below.refl _ _).drew)) hLm.out).mono ?_
         rintro e w4 ⟨b, c0, b1, c1, b2, c2, rfl, hb4, hs4⟩
         have HC4 : Hid (Below w2.heap.size w2 w4) := bt ((Below.refl _ _).drew) hb4
         have HS4 := hide hs4
         clear hs4)
      | (go_at_call 9
         refine (toObj_any kind nm team _ _ en ver V Ho _ (HV3.out.below HC4.out) (HH3.out.below HC4.out) hVm.out hHm.out).mono ?_
         rintro e w5 ⟨v5, h5, rfl, hb5, hv5, hh5⟩
         have HC5 : Hid (Below w2.heap.size w2 w5) := bt HC4.out hb5
         have HS45 := hide (HS4.out.below hb5)
         have HV5 := hide hv5.at
         have HH5 := hide hh5.at
         obtain ⟨xa, xcap, rfl⟩ := hv5.at.form'
         obtain ⟨ya, ycap, rfl⟩ := hh5.at.form'
         clear hv5 hh5)
      | (go_at_call 7
         refine (specWeighs_any _ _ _ _ Ss Ms Ts kind nm team _ _ en ver V Ho r _ HS45.out HV5.out HH5.out hVm.out).mono ?_
         rintro e w7 ⟨rfl, hb7⟩
         have HC7 : Hid (Below w2.heap.size w2 w7) := bt HC5.out hb7))
  replace FA := hide (FA.out.on HC7.out)
  replace FB := hide (FB.out.on HC7.out)
  have HB7 : Hid (Below w.heap.size w w7) := bt HB3.out HC7.out
  clear HB3 HC4 HC5 HC7 HS4 HS45 HV5 HH5 HL3 HV3 HH3
  have g0 := FA.out.cell
  have gl := FA.out.lt
  go_wp2_with fail
  clear g0 gl
  refine (toLaw_any 0 _ _ _ Ss Ms Ts _ (HL.out.below HB7.out) hLm.out).mono ?_
  rintro e w8 ⟨b, c0, b1, c1, b2, c2, rfl, hb8, hs8⟩
  have HB8 : Hid (Below w.heap.size w w8) := bt HB7.out hb8
  have HS8 := hide hs8
  replace FA := hide (FA.out.on hb8)
  replace FB := hide (FB.out.on hb8)
  clear hb8 hs8 HB7
  have g0 := FB.out.cell
  have gl := FB.out.lt
  have g1 : ∀ o i, (w8.alloc o).cell? ⟨w.heap.size + 1, i, none⟩ = _ := fun o i => (cell_alloc_lt _ _ _ _ gl).trans (g0 i)
  go_wp2_with fail
  clear g0 gl g1
  generalize hWx : w8.alloc _ = Wx
  have hbx : Below w8.heap.size w8 Wx := by rw [← hWx]; exact one_al _ _
  have FX : Hid (Box Wx w8.heap.size #[.slice b Ss.length c0, .slice b1 Ms.length c1, .slice b2 Ts.length c2]) := by rw [← hWx]; exact Box.new _ _ _ _ rfl
  have HBx : Hid (Below w.heap.size w Wx) := bt HB8.out hbx
  replace FA := hide (FA.out.on hbx)
  replace FB := hide (FB.out.on hbx)
  replace HS8 := hide (HS8.out.below hbx)
  clear hWx hbx HB8
  generalize hbeta : w8.heap.size = β at *
  refine (toObj_any kind nm team _ _ en ver V Ho _ (HV.out.below HBx.out) (HH.out.below HBx.out) hVm.out hHm.out).mono ?_
  rintro e w9 ⟨v9, h9, rfl, hb9, hv9, hh9⟩
  have HB9 : Hid (Below w.heap.size w w9) := bt HBx.out hb9
  replace HS8 := hide (HS8.out.below hb9)
  replace FA := hide (FA.out.on hb9)
  replace FB := hide (FB.out.on hb9)
  replace FX := hide (FX.out.on hb9)
  have HV9 := hide hv9.at
  have HH9 := hide hh9.at
  obtain ⟨xa, xcap, rfl⟩ := hv9.at.form'
  obtain ⟨ya, ycap, rfl⟩ := hh9.at.form'
  clear hb9 hv9 hh9 HBx
  have g0 := FX.out.cell
  have gl := FX.out.lt
  have g1 : ∀ o i, (w9.alloc o).cell? ⟨β, i, none⟩ = _ := fun o i => (cell_alloc_lt _ _ _ _ gl).trans (g0 i)
  go_wp2_with fail
  clear g0 gl g1
  generalize hWx : w9.alloc _ = Wy
  have hbx : Below w9.heap.size w9 Wy := by rw [← hWx]; exact one_al _ _
  have FY : Hid (Box Wy w9.heap.size #[.string kind, .string nm, .string team, .slice xa V.length xcap, .bool en, .slice ya Ho.length ycap, .int .i64 ver]) := by rw [← hWx]; exact Box.new _ _ _ _ rfl
  have HBy : Hid (Below w.heap.size w Wy) := bt HB9.out hbx
  replace FA := hide (FA.out.on hbx)
  replace FB := hide (FB.out.on hbx)
  replace FX := hide (FX.out.on hbx)
  replace HS8 := hide (HS8.out.below hbx)
  replace HV9 := hide (HV9.out.below hbx)
  replace HH9 := hide (HH9.out.below hbx)
  clear hWx hbx HB9
  generalize hgamma : w9.heap.size = γ at *
  refine (implWeighs_any _ _ _ _ Ss Ms Ts kind nm team _ _ en ver V Ho r _ HS8.out HV9.out HH9.out hVm.out).mono ?_
  rintro e wb ⟨rfl, hbb⟩
  have HBb : Hid (Below w.heap.size w wb) := bt HBy.out hbb
  replace FA := hide (FA.out.on hbb)
  replace FB := hide (FB.out.on hbb)
  replace FX := hide (FX.out.on hbb)
  replace FY := hide (FY.out.on hbb)
  replace HS8 := hide (HS8.out.below hbb)
  replace HV9 := hide (HV9.out.below hbb)
  replace HH9 := hide (HH9.out.below hbb)
  clear hbb HBy
  generalize hQ : weighV Ss kind V r = Q
  clear hQ
  have HLb := hide (HL.out.below HBb.out)
  go_wp2
  go_region_held3 (Held2 wb β #[.slice b Ss.length c0, .slice b1 Ms.length c1, .slice b2 Ts.length c2] w.heap.size #[.slice a Ss.length cap, .slice a1 Ms.length cap1, .slice a2 Ts.length cap2])
    (first
      | (with_reducible exact Held2.drew FX.out FA.out)
      | (with_reducible exact Held2.on (by assumption) (by assumption)))
    (first
      | (go_at_call 8
         refine (toLaw_any 0 _ _ _ Ss Ms Ts _ (HLb.out.below ((Below.refl _ _).drew)) hLm.out).mono ?_
         rintro e we ⟨d, f0, d1, f1, d2, f2, rfl, hbe, hse⟩
         have HC8 : Hid (Below wb.heap.size wb we) := bt ((Below.refl _ _).drew) hbe
         have HSe := hide hse
         clear hse)
      | (go_at_call 11
         refine (eqLaw_same _ _ _ _ Ss Ms Ts _ _ _ _ _ (HS8.out.below HC8.out) HSe.out).mono ?_
         rintro e wf ⟨rfl, hbf⟩
         have HC9 : Hid (Below wb.heap.size wb wf) := bt HC8.out hbf))
  have HBf : Hid (Below w.heap.size w wf) := bt HBb.out HC9.out
  replace FB := hide (FB.out.on HC9.out)
  replace FY := hide (FY.out.on HC9.out)
  replace HV9 := hide (HV9.out.below HC9.out)
  replace HH9 := hide (HH9.out.below HC9.out)
  clear HBb HC8 HSe HC9 HLb HS8 FX FA
  have HVf := hide (HV.out.below HBf.out)
  have HHf := hide (HH.out.below HBf.out)
  go_wp2
  go_region_held3 (Held2 wf γ #[.string kind, .string nm, .string team, .slice xa V.length xcap, .bool en, .slice ya Ho.length ycap, .int .i64 ver] (w.heap.size + 1) #[.string kind, .string nm, .string team, .slice va V.length vcap, .bool en, .slice ha Ho.length hcap, .int .i64 ver])
    (first
      | (with_reducible exact Held2.drew FY.out FB.out)
      | (with_reducible exact Held2.on (by assumption) (by assumption)))
    (first
      | (go_at_call 9
         refine (toObj_any kind nm team _ _ en ver V Ho _ (HVf.out.below ((Below.refl _ _).drew)) (HHf.out.below ((Below.refl _ _).drew)) hVm.out hHm.out).mono ?_
         rintro e wg ⟨vg, hg, rfl, hbg, hvg, hhg⟩
         have HC10 : Hid (Below wf.heap.size wf wg) := bt ((Below.refl _ _).drew) hbg
         have HVg := hide hvg.at
         have HHg := hide hhg.at
         obtain ⟨xg, xgcap, rfl⟩ := hvg.at.form'
         obtain ⟨yg, ygcap, rfl⟩ := hhg.at.form'
         clear hvg hhg)
      | (go_at_call 12
         refine (eqObj_same kind nm team _ _ en ver V Ho _ _ _ (HV9.out.below HC10.out) (HH9.out.below HC10.out) HVg.out HHg.out).mono ?_
         rintro e wh ⟨rfl, hbh⟩
         have HC11 : Hid (Below wf.heap.size wf wh) := bt HC10.out hbh))
  go_wp2
  go_ret
  exact ⟨rfl, bt HBf.out HC11.out⟩
end Go.Proofs.Ytlnlodleokobeaa
