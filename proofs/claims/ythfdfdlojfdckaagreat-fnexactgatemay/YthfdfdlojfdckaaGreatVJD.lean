import Derived.Test.YthfdfdlojfdckaaGreatVJC
import Derived.Test.YthfdfdlojfdckaaGreatVBBL
import Derived.Test.YthfdfdlojfdckaaGreatVTE
import Derived.Deep.RegionHeld3
import Derived.Test.YthfdfdlojfdckaaGreatVOPB
import Derived.Test.YthfdfdlojfdckaaGreatVOpX
import Derived.Test.YthfdfdlojfdckaaGreatVTF
import Derived.Test.YthfdfdlojfdckaaGreatVDA
import Derived.Test.YthfdfdlojfdckaaGreatVLA
import Derived.Test.YthfdfdlojfdckaaGreatVP1
import Derived.Test.YthfdfdlojfdckaaGreatVB1
import Derived.Test.YthfdfdlojfdckaaGreatVTA
import Derived.Test.YthfdfdlojfdckaaGreatVA1
namespace Go.Proofs.YthfdfdlojfdckaaGreat
open Go.RowKit Go.Deep

set_option maxRecDepth 20000 in
set_option maxHeartbeats 8000000 in
theorem law_may (sv mv tv ov gv lv pv : Value) (Ss : List Sh) (Ms : List Md) (Ts : List Tm) (B : Bk) (who : ByteArray) (v : Int) (kind team name : ByteArray) (w : World)
    (hL : LawAt 0 w sv mv tv Ss Ms Ts) (hB : BookAt 0 w ov gv lv pv B) (s0 : who.size ≤ maxLen) (s1 : kind.size ≤ maxLen) (s2 : team.size ≤ maxLen) (s3 : name.size ≤ maxLen) :
    Calls Tryz.prog 3 #[.agg #[sv, mv, tv], .agg #[.int .i64 B.now, .int .i64 B.tick, .int .i64 B.given, ov, gv, lv, pv], .string who, .agg #[.int .i64 v, .string kind, .string team, .string name]] w fun e w' => e = .returned (.bool true) ∧ Below w.heap.size w w' := by
  obtain ⟨FF, hFF⟩ := ShapesTo.exists Ss Ms B.os
  have HSH := hide hFF
  clear hFF
  have S1 := hide s1
  have S2 := hide s2
  have S3 := hide s3
  clear s1 s2 s3
  have HL := hide hL
  have HK := hide hB
  obtain ⟨a, cap, rfl⟩ := hL.shs.form
  obtain ⟨a1, cap1, rfl⟩ := hL.mds.form
  obtain ⟨a2, cap2, rfl⟩ := hL.tms.form
  obtain ⟨oa0, oc0, rfl⟩ := hB.obs.form
  obtain ⟨oa1, oc1, rfl⟩ := hB.grs.form
  obtain ⟨oa2, oc2, rfl⟩ := hB.les.form
  obtain ⟨oa3, oc3, rfl⟩ := hB.pus.form
  clear hL hB
  unfold maxLen at s0
  by_cases hr0 : 1048576 < who.size
  · go_enter Tryz.func3, Tryz.ntmps3
    go_wp2
    go_ret
    exact ⟨rfl, ((one_al w _).alloc (by simp) _).alloc (by simp; omega) _⟩
  go_enter Tryz.func3, Tryz.ntmps3
  go_wp2_with fail
  clear hr0 s0
  generalize hWa : (World.alloc (World.alloc (w.alloc _) _) _) = Wa
  have HBa : Hid (Below w.heap.size w Wa) := by rw [← hWa]; exact ((one_al w _).alloc (by simp) _).alloc (by simp; omega) _
  have FA : Hid (Box Wa w.heap.size #[.slice a Ss.length cap, .slice a1 Ms.length cap1, .slice a2 Ts.length cap2]) := by rw [← hWa]; exact ((Box.new _ _ _ _ rfl).on (one_al _ _)).on (one_al _ _)
  have FB : Hid (Box Wa (w.heap.size + 1) #[.int .i64 B.now, .int .i64 B.tick, .int .i64 B.given, .slice oa0 B.os.length oc0, .slice oa1 B.gs.length oc1, .slice oa2 B.ls.length oc2, .slice oa3 B.ps.length oc3]) := by rw [← hWa]; exact (Box.new _ _ _ _ (by simp)).on (one_al _ _)
  have FC : Hid (Box Wa (w.heap.size + 2) #[.int .i64 v, .string kind, .string team, .string name]) := by rw [← hWa]; exact Box.new _ _ _ _ (by simp)
  clear hWa
  refine (szLaw_any 0 _ _ _ Ss Ms Ts _ _ (by omega) (by omega) (HL.out.below HBa.out)).mono ?_
  rintro e w1 ⟨q, rfl, hb1, hr0, hr1, hr2⟩
  have HB1 : Hid (Below w.heap.size w w1) := bt HBa.out hb1
  replace FA := hide (FA.out.on hb1)
  replace FB := hide (FB.out.on hb1)
  replace FC := hide (FC.out.on hb1)
  have HQ := hide hr2
  clear hb1 hr2 HBa
  by_cases hneg : q < 0
  · go_wp2
    go_ret
    exact ⟨rfl, HB1.out⟩
  have hLm : Hid (LawSmall Ss Ms Ts) := HQ.out (by omega)
  clear HQ hr0
  have g1 := FB.out.cell
  have gm := FB.out.lt
  go_wp2_with fail
  clear g1 gm
  refine (szBook_any 0 _ _ _ _ B _ _ (by omega) (by omega) (HK.out.below HB1.out)).mono ?_
  rintro e w2 ⟨q2, rfl, hb2, hr0, hr2, hr3⟩
  have HB3 : Hid (Below w.heap.size w w2) := bt HB1.out hb2
  replace FA := hide (FA.out.on hb2)
  replace FB := hide (FB.out.on hb2)
  replace FC := hide (FC.out.on hb2)
  have HQ := hide hr3
  clear hb2 hr3 HB1
  by_cases hneg2 : q2 < 0
  · go_wp2
    go_ret
    exact ⟨rfl, HB3.out⟩
  have hBm : Hid (BookSmall B) := HQ.out (by omega)
  clear HQ hr0 hneg
  have g1 := FC.out.cell
  have gm := FC.out.lt
  go_wp2_with fail
  clear g1 gm
  refine (szAct_any v kind team name _ _ (by omega) (by omega) S1.out S2.out S3.out).mono ?_
  rintro e w2b ⟨q3, rfl, hb3, hr0, hr4⟩
  replace HB3 : Hid (Below w.heap.size w w2b) := bt HB3.out hb3
  replace FA := hide (FA.out.on hb3)
  replace FB := hide (FB.out.on hb3)
  replace FC := hide (FC.out.on hb3)
  clear hb3
  generalize w2b = w2 at *
  by_cases hneg3 : q3 < 0
  · go_wp2
    go_ret
    exact ⟨rfl, HB3.out⟩
  clear hneg2 hr0 hr1 hr2 hr4
  go_wp2
  clear hneg3
  have HL3 := hide (HL.out.below HB3.out)
  have HK3 := hide (HK.out.below HB3.out)
  go_region_held3 (HeldT w2 w.heap.size #[.slice a Ss.length cap, .slice a1 Ms.length cap1, .slice a2 Ts.length cap2] (w.heap.size + 1) #[.int .i64 B.now, .int .i64 B.tick, .int .i64 B.given, .slice oa0 B.os.length oc0, .slice oa1 B.gs.length oc1, .slice oa2 B.ls.length oc2, .slice oa3 B.ps.length oc3] (w.heap.size + 2) #[.int .i64 v, .string kind, .string team, .string name])
    (first
      | (with_reducible exact HeldT.drew FA.out FB.out FC.out)
      | (with_reducible exact HeldT.on (by assumption) (by assumption)))
    (first
      | (go_at_call 9
         refine (toLaw_any 0 _ _ _ Ss Ms Ts _ (HL3.out.below ((Below.refl _ _).drew)) hLm.out).mono ?_
         rintro e w4 ⟨b, c0, b1, c1, b2, c2, rfl, hb4, hs4⟩
         have HC4 : Hid (Below w2.heap.size w2 w4) := bt ((Below.refl _ _).drew) hb4
         have HS4 := hide (hs4.mono (Nat.zero_le _))
         clear hs4)
      | (go_at_call 10
         refine (toBook_any 0 _ _ _ _ B _ (HK3.out.below HC4.out) hBm.out).mono ?_
         rintro e w5 ⟨x0, y0, x1, y1, x2, y2, x3, y3, rfl, hb5, hk5⟩
         have HC5 : Hid (Below w2.heap.size w2 w5) := bt HC4.out hb5
         have HS45 := hide (HS4.out.below hb5)
         have HK5 := hide (hk5.mono (Nat.zero_le _))
         clear hk5)
      | (go_at_call 11
         refine (toAct_any v kind team name _).mono ?_
         rintro e w6 ⟨rfl, hb6⟩
         have HC6 : Hid (Below w2.heap.size w2 w6) := bt HC5.out hb6
         have HS46 := hide (HS45.out.below hb6)
         have HK56 := hide (HK5.out.below hb6))
      | (go_at_call 8
         refine (specMay_any _ _ _ _ _ _ _ Ss Ms Ts B FF who v kind team name _ HS46.out HK56.out hBm.out HSH.out).mono ?_
         rintro e w7 ⟨rfl, hb7⟩
         have HC7 : Hid (Below w2.heap.size w2 w7) := bt HC6.out hb7))
  replace FA := hide (FA.out.on HC7.out)
  replace FB := hide (FB.out.on HC7.out)
  replace FC := hide (FC.out.on HC7.out)
  have HB7 : Hid (Below w.heap.size w w7) := bt HB3.out HC7.out
  clear HB3 HC4 HC5 HC6 HC7 HS4 HS45 HS46 HK5 HK56 HL3 HK3
  have g0 := FA.out.cell
  have gl := FA.out.lt
  go_wp2_with fail
  clear g0 gl
  refine (toLaw_any 0 _ _ _ Ss Ms Ts _ (HL.out.below HB7.out) hLm.out).mono ?_
  rintro e w8 ⟨b, c0, b1, c1, b2, c2, rfl, hb8, hs8⟩
  have HB8 : Hid (Below w.heap.size w w8) := bt HB7.out hb8
  have HS8 := hide (hs8.mono (Nat.zero_le _))
  replace FA := hide (FA.out.on hb8)
  replace FB := hide (FB.out.on hb8)
  replace FC := hide (FC.out.on hb8)
  clear hb8 hs8 HB7
  have g0 := FB.out.cell
  have gl := FB.out.lt
  have g1 : ∀ o i, (w8.alloc o).cell? ⟨w.heap.size + 1, i, none⟩ = _ := fun o i => (cell_alloc_lt _ _ _ _ gl).trans (g0 i)
  go_wp2_with fail
  clear g0 gl g1
  generalize hWx : w8.alloc _ = Wx
  have hbx : Below w8.heap.size w8 Wx := by rw [← hWx]; exact one_al _ _
  have FX : Hid (Box Wx w8.heap.size #[.slice b Ss.length c0, .slice b1 Ms.length c1, .slice b2 Ts.length c2]) := by rw [← hWx]; exact Box.new _ _ _ _ rfl
  have HBx : Hid (Below w.heap.size w Wx) := bt HB8.out hbx
  replace FA := hide (FA.out.on hbx)
  replace FB := hide (FB.out.on hbx)
  replace FC := hide (FC.out.on hbx)
  replace HS8 := hide (HS8.out.below hbx)
  clear hWx hbx HB8
  generalize hbeta : w8.heap.size = β at *
  refine (toBook_any 0 _ _ _ _ B _ (HK.out.below HBx.out) hBm.out).mono ?_
  rintro e w9 ⟨x0, y0, x1, y1, x2, y2, x3, y3, rfl, hb9, hk9⟩
  have HB9 : Hid (Below w.heap.size w w9) := bt HBx.out hb9
  have HK9 := hide (hk9.mono (Nat.zero_le _))
  replace HS8 := hide (HS8.out.below hb9)
  replace FA := hide (FA.out.on hb9)
  replace FB := hide (FB.out.on hb9)
  replace FC := hide (FC.out.on hb9)
  replace FX := hide (FX.out.on hb9)
  clear hb9 hk9 HBx
  have g0 := FX.out.cell
  have gl := FX.out.lt
  have g1 : ∀ o i, (w9.alloc o).cell? ⟨β, i, none⟩ = _ := fun o i => (cell_alloc_lt _ _ _ _ gl).trans (g0 i)
  clear g0 gl g1
  go_wp2
  generalize hWx : w9.alloc _ = Wy
  have hbx : Below w9.heap.size w9 Wy := by rw [← hWx]; exact one_al _ _
  have FY : Hid (Box Wy w9.heap.size #[.int .i64 B.now, .int .i64 B.tick, .int .i64 B.given, .slice x0 B.os.length y0, .slice x1 B.gs.length y1, .slice x2 B.ls.length y2, .slice x3 B.ps.length y3]) := by rw [← hWx]; exact Box.new _ _ _ _ rfl
  have HBy : Hid (Below w.heap.size w Wy) := bt HB9.out hbx
  replace FA := hide (FA.out.on hbx)
  replace FB := hide (FB.out.on hbx)
  replace FC := hide (FC.out.on hbx)
  replace FX := hide (FX.out.on hbx)
  replace HS8 := hide (HS8.out.below hbx)
  replace HK9 := hide (HK9.out.below hbx)
  clear hWx hbx HB9
  generalize hgamma : w9.heap.size = γ at *
  go_region_held3 (HeldT Wy β #[.slice b Ss.length c0, .slice b1 Ms.length c1, .slice b2 Ts.length c2] γ #[.int .i64 B.now, .int .i64 B.tick, .int .i64 B.given, .slice x0 B.os.length y0, .slice x1 B.gs.length y1, .slice x2 B.ls.length y2, .slice x3 B.ps.length y3] (w.heap.size + 2) #[.int .i64 v, .string kind, .string team, .string name])
    (first
      | (with_reducible exact HeldT.drew FX.out FY.out FC.out)
      | (with_reducible exact HeldT.on (by assumption) (by assumption)))
    (first
      | (go_at_call 11
         refine (toAct_any v kind team name _).mono ?_
         rintro e wa ⟨rfl, hba⟩
         have HC6 : Hid (Below Wy.heap.size Wy wa) := bt ((Below.refl _ _).drew) hba)
      | (go_at_call 12
         refine (implMay_any _ _ _ _ _ _ _ Ss Ms Ts B FF who v kind team name _ (HS8.out.below HC6.out) (HK9.out.below HC6.out) hBm.out HSH.out).mono ?_
         rintro e wb ⟨rfl, hbb0⟩
         have HC7 : Hid (Below Wy.heap.size Wy wb) := bt HC6.out hbb0))
  have hbb := HC7.out
  have HBb : Hid (Below w.heap.size w wb) := bt HBy.out hbb
  replace FA := hide (FA.out.on hbb)
  replace FB := hide (FB.out.on hbb)
  replace FC := hide (FC.out.on hbb)
  replace FX := hide (FX.out.on hbb)
  replace FY := hide (FY.out.on hbb)
  replace HS8 := hide (HS8.out.below hbb)
  replace HK9 := hide (HK9.out.below hbb)
  clear hbb HBy HC6 HC7
  generalize hQ : mayB Ss Ms Ts B FF who v kind team name = Q
  clear hQ
  clear FC
  have HLb := hide (HL.out.below HBb.out)
  go_wp2
  go_region_held3 (Held2 wb β #[.slice b Ss.length c0, .slice b1 Ms.length c1, .slice b2 Ts.length c2] w.heap.size #[.slice a Ss.length cap, .slice a1 Ms.length cap1, .slice a2 Ts.length cap2])
    (first
      | (with_reducible exact Held2.drew FX.out FA.out)
      | (with_reducible exact Held2.on (by assumption) (by assumption)))
    (first
      | (go_at_call 9
         refine (toLaw_any 0 _ _ _ Ss Ms Ts _ (HLb.out.below ((Below.refl _ _).drew)) hLm.out).mono ?_
         rintro e we ⟨d, f0, d1, f1, d2, f2, rfl, hbe, hse⟩
         have HC8 : Hid (Below wb.heap.size wb we) := bt ((Below.refl _ _).drew) hbe
         have HSe := hide hse
         clear hse)
      | (go_at_call 13
         refine (eqLaw_same _ _ _ _ Ss Ms Ts _ _ _ _ _ (HS8.out.below HC8.out) HSe.out).mono ?_
         rintro e wf ⟨rfl, hbf⟩
         have HC9 : Hid (Below wb.heap.size wb wf) := bt HC8.out hbf))
  have HBf : Hid (Below w.heap.size w wf) := bt HBb.out HC9.out
  replace FB := hide (FB.out.on HC9.out)
  replace FY := hide (FY.out.on HC9.out)
  replace HK9 := hide (HK9.out.below HC9.out)
  clear HBb HC8 HSe HC9 HLb HS8 FX FA
  have HKf := hide (HK.out.below HBf.out)
  go_wp2
  go_region_held3 (Held2 wf γ #[.int .i64 B.now, .int .i64 B.tick, .int .i64 B.given, .slice x0 B.os.length y0, .slice x1 B.gs.length y1, .slice x2 B.ls.length y2, .slice x3 B.ps.length y3] (w.heap.size + 1) #[.int .i64 B.now, .int .i64 B.tick, .int .i64 B.given, .slice oa0 B.os.length oc0, .slice oa1 B.gs.length oc1, .slice oa2 B.ls.length oc2, .slice oa3 B.ps.length oc3])
    (first
      | (with_reducible exact Held2.drew FY.out FB.out)
      | (with_reducible exact Held2.on (by assumption) (by assumption)))
    (first
      | (go_at_call 10
         refine (toBook_any 0 _ _ _ _ B _ (HKf.out.below ((Below.refl _ _).drew)) hBm.out).mono ?_
         rintro e wg ⟨z0, t0, z1, t1, z2, t2, z3, t3, rfl, hbg, hkg⟩
         have HC10 : Hid (Below wf.heap.size wf wg) := bt ((Below.refl _ _).drew) hbg
         have HKg := hide hkg
         clear hkg)
      | (go_at_call 14
         refine (eqBook_same _ _ _ _ _ B _ _ _ _ _ _ (HK9.out.below HC10.out) HKg.out).mono ?_
         rintro e wh ⟨rfl, hbh⟩
         have HC11 : Hid (Below wf.heap.size wf wh) := bt HC10.out hbh))
  go_wp2
  go_ret
  exact ⟨rfl, bt HBf.out HC11.out⟩
end Go.Proofs.YthfdfdlojfdckaaGreat

namespace Go.Proofs.YthfdfdlojfdckaaGreat
open Go.ChangeShapes Go.WideShapes Go.ChangeAt Go.RowKit Go.Deep
open Go.ChangeMaps (open_string shut_string)

set_option maxRecDepth 100000 in
theorem may_lifted (os : Os) (started : os.Started) (H : Type) (enc : TypeId × Value → H) :
    ReturnsInHanded {} Tryz.checked os 3 .any (Rows.fnExactGateMaySpec.pre6 enc Tryz.prog Tryz.f3 Rows.fnExactGateMayRow.domain false) (Rows.fnExactGateMaySpec.post enc Tryz.prog Tryz.f3 false true false false) := by
  refine returnsInHanded_of_change (C := Tryz.checked) Tryz.own started (by kernel_rfl) Tryz.func3
    (ChangeSpec.witness6 (enc := enc) (C := Tryz.checked) false ⟨#[], #[.agg #[.slice none 0 0, .slice none 0 0, .slice none 0 0], .agg #[.int .i64 0, .int .i64 0, .int .i64 0, .slice none 0 0, .slice none 0 0, .slice none 0 0, .slice none 0 0], .string .empty, .agg #[.int .i64 0, .string .empty, .string .empty, .string .empty]], []⟩ 8 (by kernel_rfl) (by kernel_rfl) (by kernel_rfl) (by kernel_rfl)) ?_
  intro W base args ds gs before hval0 hW hcnd _
  have hval : ∀ (j : Nat) t v, Tryz.f3.params[j]? = some t → args[j]? = some v → Value.okWide Tryz.prog W .any base t v := hval0
  have hW' := hW
  obtain ⟨p, q, hA0, hV, rfl, hfz, hnd⟩ := hW
  have hA : DataW.TrodAll enc Tryz.prog W 0 (fun _ => true) true Tryz.f3.params.toList args.toList ds p := hA0
  rw [Tryz.params3] at hA hval
  obtain ⟨v0, v1, v2, v3, d0, d1, d2, d3, p0, p1, p2, p3, rfl, rfl, rfl, h0, h1, h2, h3⟩ := trodAll_four hA
  obtain ⟨rfl, rfl⟩ := trodVars_none hV
  have h0k := h0
  have h1k := h1
  have h3k := h3
  obtain ⟨x2, rfl, rfl, rfl, s2⟩ := open_string Tryz.underlying9 (hval 2 9 v2 rfl rfl) h2
  clear hA0 hval0
  simp only [List.append_nil] at hW'
  have hlt0 : ∀ x ∈ p0, x.block < W.heap.size := fun x hx => by simpa using hW'.lt x (by simp [hx])
  have hlt1 : ∀ x ∈ p1, x.block < W.heap.size := fun x hx => by simpa using hW'.lt x (by simp [hx])
  have hlt3 : ∀ x ∈ p3, x.block < W.heap.size := fun x hx => by simpa using hW'.lt x (by simp [hx])
  obtain ⟨sv, mv, tv, Ss, Ms, Ts, rfl, hL⟩ := open_law (hval 0 26 v0 rfl rfl) h0
  obtain ⟨ov, gv, lv, pv, B, rfl, hB⟩ := open_book (hval 1 32 v1 rfl rfl) h1
  obtain ⟨n, kd, te, nm, rfl, z1, z2, z3⟩ := open_act (hval 3 34 v3 rfl rfl) h3
  refine (law_may _ _ _ _ _ _ _ Ss Ms Ts B x2 n kd te nm W hL hB s2 z1 z2 z3).mono fun e W' ⟨he, hb⟩ => ?_
  subst he
  have hargs0 := Below.trod Tryz.laidOut (by kernel_rfl) (of_decide_eq_true (by kernel_rfl)) h0k hb hlt0
  have hargs1 := Below.trod Tryz.laidOut (by kernel_rfl) (of_decide_eq_true (by kernel_rfl)) h1k hb hlt1
  have hargs3 := Below.trod Tryz.laidOut (by kernel_rfl) (of_decide_eq_true (by kernel_rfl)) h3k hb hlt3
  exact ⟨_, rfl, ⟨_, _, _, [], _, [], hW', trodAll_mk1 (shut_bool Tryz.underlying4 true), trodAll_mk4 hargs0 hargs1 (shut_string Tryz.underlying9 s2) hargs3, rfl, hb.frame _, fun h => by cases h⟩⟩

theorem may_holds : Rows.FnExactGateMaySaid :=
  OpenClaim.holds_of_wide 3 Tryz.f3 rfl rfl rfl rfl rfl rfl rfl ⟨rfl, rfl, rfl, rfl, rfl⟩ rfl rfl rfl rfl rfl (by kernel_rfl) Tryz.func3 (by kernel_rfl)
    (of_decide_eq_true (by kernel_rfl)) (by unfold Func.isWrapper; first | (rw [if_pos (by decide +kernel)]; kernel_rfl) | (rw [if_neg (by decide +kernel)]; exact ⟨rfl, rfl⟩))
    (fun os started H enc _ => may_lifted os started H enc)
end Go.Proofs.YthfdfdlojfdckaaGreat

