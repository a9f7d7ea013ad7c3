import Derived.Test.YtfohnageehneoaaGreatUSLQ
import Derived.Deep.RegionHeld3
import Derived.Deep.MidRow
import Derived.Test.YtfohnageehneoaaGreatUSL
import Derived.Test.YtfohnageehneoaaGreatUDA
import Derived.Test.YtfohnageehneoaaGreatULA
import Derived.Test.YtfohnageehneoaaGreatUP1
import Derived.Test.YtfohnageehneoaaGreatUB1
import Derived.Test.YtfohnageehneoaaGreatUTA
import Derived.Test.YtfohnageehneoaaGreatUA1
import Derived.Test.YtfohnageehneoaaGreatUOPB
namespace Go.Proofs.YtfohnageehneoaaGreat
open Go.RowKit Go.Deep

theorem slip_sizeL : (Tryz.prog.info? 67).map (·.size) = some 18 := by kernel_rfl
theorem law_sizeL : (Tryz.prog.info? 26).map (·.size) = some 3 := by kernel_rfl
theorem law_size : (Tryz.prog.info? 47).map (·.size) = some 3 := by kernel_rfl
/-- the cells of a slip -/
def slL (S : Sl) (a0 : Option Addr) (k0 : Nat) (a1 : Option Addr) (k1 : Nat) (a2 : Option Addr) (k2 : Nat) (a3 : Option Addr) (k3 : Nat) : List Value := [.string S.dr, .string S.ak.who, .int .i64 S.ak.verb, .string S.ak.kd, .string S.ak.nm, .string S.ak.tm, .slice a0 S.ak.vs.length k0, .slice a1 S.ak.hs.length k1, .int .i64 S.ak.seen, .string S.ak.hold, .string S.ak.tw, .slice a2 S.ak.vb.length k2, .string S.ak.rk, .string S.ak.rt, .string S.ak.rp, .int .i64 S.ak.num, .int .i64 S.gn, .slice a3 S.ws.length k3]
theorem slL_one (S : Sl) (a0 : Option Addr) (k0 : Nat) (a1 : Option Addr) (k1 : Nat) (a2 : Option Addr) (k2 : Nat) (a3 : Option Addr) (k3 : Nat) : Array.all (slL S a0 k0 a1 k1 a2 k2 a3 k3).toArray (·.oneCell') = true := by
  unfold slL
  simp [Value.oneCell']
theorem toSlipL (a0 : Option Addr) (k0 : Nat) (a1 : Option Addr) (k1 : Nat) (a2 : Option Addr) (k2 : Nat) (a3 : Option Addr) (k3 : Nat) (S : Sl) (w : World) (h : SlipAt 0 w (.slice a0 S.ak.vs.length k0) (.slice a1 S.ak.hs.length k1) (.slice a2 S.ak.vb.length k2) (.slice a3 S.ws.length k3) S) (hn : SlSmall S) : Calls Tryz.prog 24 #[.agg (slL S a0 k0 a1 k1 a2 k2 a3 k3).toArray] w
    fun e w' => ∃ b0 m0 b1 m1 b2 m2 b3 m3, e = .returned (.agg (slL S b0 m0 b1 m1 b2 m2 b3 m3).toArray) ∧ Below w.heap.size w w' ∧ SlipAt 0 w' (.slice b0 S.ak.vs.length m0) (.slice b1 S.ak.hs.length m1) (.slice b2 S.ak.vb.length m2) (.slice b3 S.ws.length m3) S :=
  (toSlip_any 0 _ _ _ _ S w h hn).mono fun e w' h => by
    obtain ⟨b0, m0, b1, m1, b2, m2, b3, m3, h1, h2, h3⟩ := h
    exact ⟨b0, m0, b1, m1, b2, m2, b3, m3, h1, h2, h3.mono (Nat.zero_le _)⟩
set_option maxRecDepth 20000 in
set_option maxHeartbeats 40000000 in
theorem law_slip (sv mv tv va ha qa wv : Value) (Ss : List Sh) (Ms : List Md) (Ts : List Tm) (S : Sl) (w : World)
    (hL : LawAt 0 w sv mv tv Ss Ms Ts) (hB : SlipAt 0 w va ha qa wv S) :
    Calls Tryz.prog 6 #[.agg #[sv, mv, tv], .agg #[.string S.dr, .string S.ak.who, .int .i64 S.ak.verb, .string S.ak.kd, .string S.ak.nm, .string S.ak.tm, va, ha, .int .i64 S.ak.seen, .string S.ak.hold, .string S.ak.tw, qa, .string S.ak.rk, .string S.ak.rt, .string S.ak.rp, .int .i64 S.ak.num, .int .i64 S.gn, wv]] w fun e w' => e = .returned (.bool true) ∧ Below w.heap.size w w' := by
  have HL := hide hL
  have HK := hide hB
  obtain ⟨a, cap, rfl⟩ := hL.shs.form
  obtain ⟨a1, cap1, rfl⟩ := hL.mds.form
  obtain ⟨a2, cap2, rfl⟩ := hL.tms.form
  obtain ⟨oa0, oc0, rfl⟩ := hB.ak.vs.at.form'
  obtain ⟨oa1, oc1, rfl⟩ := hB.ak.hs.at.form'
  obtain ⟨oa2, oc2, rfl⟩ := hB.ak.vb.form
  obtain ⟨oa3, oc3, rfl⟩ := hB.ws.form
  clear hL hB
  go_enter Tryz.func6, Tryz.ntmps6
  go_wp2_with fail
  generalize hWa : (World.alloc (w.alloc _) _) = Wa
  have HBa : Hid (Below w.heap.size w Wa) := by rw [← hWa]; exact (one_al w _).alloc (by simp) _
  have FA : Hid (Box Wa w.heap.size #[.slice a Ss.length cap, .slice a1 Ms.length cap1, .slice a2 Ts.length cap2]) := by rw [← hWa]; exact (Box.new _ _ _ _ rfl).on (one_al _ _)
  have FB : Hid (Box Wa (w.heap.size + 1) (slL S oa0 oc0 oa1 oc1 oa2 oc2 oa3 oc3).toArray) := by rw [← hWa]; exact Box.new _ (slL S oa0 oc0 oa1 oc1 oa2 oc2 oa3 oc3).toArray _ _ (by simp)
  clear hWa
  refine (szLaw_any 0 _ _ _ Ss Ms Ts _ _ (by omega) (by omega) (HL.out.below HBa.out)).mono ?_
  rintro e w1 ⟨q, rfl, hb1, hr0, hr1, hr2⟩
  have HB1 : Hid (Below w.heap.size w w1) := bt HBa.out hb1
  replace FA := hide (FA.out.on hb1)
  replace FB := hide (FB.out.on hb1)
  have HQ := hide hr2
  clear hb1 hr2 HBa
  by_cases hneg : q < 0
  · go_wp2
    go_ret
    exact ⟨rfl, HB1.out⟩
  have hLm : Hid (LawSmall Ss Ms Ts) := HQ.out (by omega)
  clear HQ hr0
  go_wp2_with (refine wpList_load_mid rfl 67 (.tmp 3) rfl (w.heap.size + 1) 0 rfl (slL S oa0 oc0 oa1 oc1 oa2 oc2 oa3 oc3) _ (FB.out.range rfl) Tryz.underlying67 rfl slip_sizeL ?_)
  refine (szSlip_any 0 _ _ _ _ S _ _ (by omega) (by omega) (HK.out.below HB1.out)).mono ?_
  rintro e w2 ⟨q2, rfl, hb2, hr0, hr2, hr3⟩
  have HB3 : Hid (Below w.heap.size w w2) := bt HB1.out hb2
  replace FA := hide (FA.out.on hb2)
  replace FB := hide (FB.out.on hb2)
  have HQ := hide hr3
  clear hb2 hr3 HB1
  by_cases hneg2 : q2 < 0
  · go_wp2
    go_ret
    exact ⟨rfl, HB3.out⟩
  have hBm : Hid (SlSmall S) := HQ.out (by omega)
  clear HQ hr0 hr1 hr2 hneg
  go_wp2
  clear hneg2
  go_cut [6] from 10 (fun v wc => v = .bool (lawB Ss Ms Ts && slipB Ss Ts S) ∧ Below w2.heap.size w2 wc)
  case first =>
    have HL3 := hide (HL.out.below HB3.out)
    have HK3 := hide (HK.out.below HB3.out)
    have KP : Hid (∀ W, Below w2.heap.size w2 W → (fun W => W.rangeAt w.heap.size 0 [.slice a Ss.length cap, .slice a1 Ms.length cap1, .slice a2 Ts.length cap2] ∧ W.rangeAt (w.heap.size + 1) 0 (slL S oa0 oc0 oa1 oc1 oa2 oc2 oa3 oc3)) W) := fun W hW => ⟨(FA.out.on hW).range rfl, (FB.out.on hW).range rfl⟩
    clear FA FB
    refine wp_region_held_drew (S := fun W => W.rangeAt w.heap.size 0 [.slice a Ss.length cap, .slice a1 Ms.length cap1, .slice a2 Ts.length cap2] ∧ W.rangeAt (w.heap.size + 1) 0 (slL S oa0 oc0 oa1 oc1 oa2 oc2 oa3 oc3)) (by kernel_rfl) (KP.out _ ((Below.refl _ _).drew)) (fun hHeld => ?_)
    refine wpAnyH_take (i := 0) rfl (by kernel_rfl) (by kernel_rfl) (by kernel_rfl) (fun _ _ _ h => h) (yieldsIf_load_mid (by rfl) 26 (.tmp 2) rfl (w.heap.size) 0 rfl [.slice a Ss.length cap, .slice a1 Ms.length cap1, .slice a2 Ts.length cap2] _ (fun _ h => h.1) Tryz.underlying26 rfl law_sizeL) hHeld ?_
    simp only [Act.put, List.setIfInBounds_toArray]
    refine wpAnyH_take (i := 2) rfl (by kernel_rfl) (by kernel_rfl) (by kernel_rfl) (fun _ _ _ h => h) (yieldsIf_load_mid (by rfl) 67 (.tmp 3) rfl (w.heap.size + 1) 0 rfl (slL S oa0 oc0 oa1 oc1 oa2 oc2 oa3 oc3) _ (fun _ h => h.2) Tryz.underlying67 rfl slip_sizeL) hHeld ?_
    simp only [Act.put]
    refine wpAnyH_ready (rs := [1]) (by kernel_rfl) (by simp) ?_
    refine AllReadyH.cons rfl (fun K hK => ?_) AllReadyH.nil
    go_simp
    refine (toLaw_any 0 _ _ _ Ss Ms Ts _ (HL3.out.below ((Below.refl _ _).drew)) hLm.out).mono ?_
    rintro e w4 ⟨b, c0, b1, c1, b2, c2, rfl, hb4, hs4⟩
    have HC4 : Hid (Below w2.heap.size w2 w4) := bt ((Below.refl _ _).drew) hb4
    have HS4 := hide (hs4.mono (Nat.zero_le _))
    clear hs4 hb4
    try go_wp2_with fail
    refine hK.out _ _ (KP.out _ HC4.out) (fun hHeld => ?_)
    clear hK K
    try simp only [Act.put, List.setIfInBounds_toArray, List.set_cons_zero, List.set_cons_succ]
    refine wpAnyH_ready (rs := [3]) (by kernel_rfl) (by simp) ?_
    refine AllReadyH.cons rfl (fun K hK => ?_) AllReadyH.nil
    go_simp
    refine (toSlipL _ _ _ _ _ _ _ _ S _ (HK3.out.below HC4.out) hBm.out).mono ?_
    rintro e w5 ⟨x0, y0, x1, y1, x2, y2, x3, y3, rfl, hb5, hk5⟩
    have HC5 : Hid (Below w2.heap.size w2 w5) := bt HC4.out hb5
    have HS45 := hide (HS4.out.below hb5)
    have HK5 := hide hk5
    clear hk5 hb5
    try go_wp2_with fail
    refine hK.out _ _ (KP.out _ HC5.out) (fun hHeld => ?_)
    clear hK K
    try simp only [Act.put, List.setIfInBounds_toArray, List.set_cons_zero, List.set_cons_succ]
    refine wpAnyH_ready (rs := [4]) (by kernel_rfl) (by simp) ?_
    refine AllReadyH.cons rfl (fun K hK => ?_) AllReadyH.nil
    go_simp
    refine (specSlip_any _ _ _ _ _ _ _ Ss Ms Ts S _ HS45.out HK5.out).mono ?_
    rintro e w7 ⟨rfl, hb7⟩
    have HC7 : Hid (Below w2.heap.size w2 w7) := bt HC5.out hb7
    clear hb7
    try go_wp2_with fail
    refine hK.out _ _ (KP.out _ HC7.out) (fun hHeld => ?_)
    clear hK K
    try simp only [Act.put, List.setIfInBounds_toArray, List.set_cons_zero, List.set_cons_succ]
    refine wpAnyH_ready (rs := [5]) (by kernel_rfl) (by simp) ?_
    refine AllReadyH.cons rfl (fun K hK => ?_) AllReadyH.nil
    go_simp
    refine hK.out _ _ (KP.out _ HC7.out) (fun hHeld => ?_)
    clear hK K
    try simp only [Act.put, List.setIfInBounds_toArray, List.set_cons_zero, List.set_cons_succ]
    refine wpAnyH_done (by kernel_rfl) ?_ _
    go_wp2
    go_meet
    exact ⟨rfl, HC7.out⟩
  case rest =>
  revert wc
  intro w7 hcut
  obtain ⟨rfl, hb7⟩ := hcut
  replace FA := hide (FA.out.on hb7)
  replace FB := hide (FB.out.on hb7)
  have HB7 : Hid (Below w.heap.size w w7) := bt HB3.out hb7
  clear HB3 hb7
  go_step
  go_step
  go_cut [7] from 10 (fun p wc => ∃ β b c0 b1 c1 b2 c2, p = .pointer (some ⟨β, 0, none⟩) ∧ Box wc β #[.slice b Ss.length c0, .slice b1 Ms.length c1, .slice b2 Ts.length c2] ∧ LawAt 0 wc (.slice b Ss.length c0) (.slice b1 Ms.length c1) (.slice b2 Ts.length c2) Ss Ms Ts ∧ Below w7.heap.size w7 wc)
  case first =>
    have g0 := FA.out.cell
    have gl := FA.out.lt
    go_wp2_with fail
    clear g0 gl
    refine (toLaw_any 0 _ _ _ Ss Ms Ts _ (HL.out.below HB7.out) hLm.out).mono ?_
    rintro e w8 ⟨b, c0, b1, c1, b2, c2, rfl, hb8, hs8⟩
    have HB8 := hide hb8
    have HS8 := hide (hs8.mono (Nat.zero_le _))
    clear hb8 hs8
    go_wp2
    go_meet
    exact ⟨_, _, _, _, _, _, _, rfl, Box.new _ _ _ _ rfl, HS8.out.below (one_al _ _), bt HB8.out (one_al _ _)⟩
  case rest =>
  revert wc
  intro w8 hcut
  obtain ⟨β, b, c0, b1, c1, b2, c2, rfl, hx8, hs8, hb8⟩ := hcut
  have HB8 : Hid (Below w.heap.size w w8) := bt HB7.out hb8
  have HS8 := hide hs8
  have FX := hide hx8
  replace FA := hide (FA.out.on hb8)
  replace FB := hide (FB.out.on hb8)
  clear hb8 hs8 hx8 HB7
  go_step
  go_step
  go_cut [8] from 10 (fun p wc => ∃ γ x0 y0 x1 y1 x2 y2 x3 y3, p = .pointer (some ⟨γ, 0, none⟩) ∧ Box wc γ (slL S x0 y0 x1 y1 x2 y2 x3 y3).toArray ∧ SlipAt 0 wc (.slice x0 S.ak.vs.length y0) (.slice x1 S.ak.hs.length y1) (.slice x2 S.ak.vb.length y2) (.slice x3 S.ws.length y3) S ∧ Below w8.heap.size w8 wc)
  case first =>
    go_wp2_with (refine wpList_load_mid rfl 67 (.tmp 3) rfl (w.heap.size + 1) 0 rfl (slL S oa0 oc0 oa1 oc1 oa2 oc2 oa3 oc3) _ (FB.out.range rfl) Tryz.underlying67 rfl slip_sizeL ?_)
    refine (toSlipL _ _ _ _ _ _ _ _ S _ (HK.out.below HB8.out) hBm.out).mono ?_
    rintro e w9 ⟨x0, y0, x1, y1, x2, y2, x3, y3, rfl, hb9, hk9⟩
    have HB9 := hide hb9
    have HK9 := hide hk9
    have HTH : Hid (∀ t, World.there (w9.alloc (.cells #[.string ⟨#[]⟩, .string ⟨#[]⟩, .int .i64 0, .string ⟨#[]⟩, .string ⟨#[]⟩, .string ⟨#[]⟩, .slice none 0 0, .slice none 0 0, .int .i64 0, .string ⟨#[]⟩, .string ⟨#[]⟩, .slice none 0 0, .string ⟨#[]⟩, .string ⟨#[]⟩, .string ⟨#[]⟩, .int .i64 0, .int .i64 0, .slice none 0 0] t)) w9.heap.size 0 18) := fun t => (Box.new w9 _ _ _ rfl).there rfl
    clear hb9 hk9
    go_wp2_with (refine wpList_store_mid rfl 75 (.tmp 8) (.tmp 28) rfl w9.heap.size 0 (slL S x0 y0 x1 y1 x2 y2 x3 y3).toArray rfl rfl (HTH.out _) slip_size (slL_one _ _ _ _ _ _ _ _ _) ?_)
    go_meet
    exact ⟨_, _, _, _, _, _, _, _, _, rfl, (Box.new w9 #[.string ⟨#[]⟩, .string ⟨#[]⟩, .int .i64 0, .string ⟨#[]⟩, .string ⟨#[]⟩, .string ⟨#[]⟩, .slice none 0 0, .slice none 0 0, .int .i64 0, .string ⟨#[]⟩, .string ⟨#[]⟩, .slice none 0 0, .string ⟨#[]⟩, .string ⟨#[]⟩, .string ⟨#[]⟩, .int .i64 0, .int .i64 0, .slice none 0 0] _ _ rfl).full (cs' := (slL S x0 y0 x1 y1 x2 y2 x3 y3).toArray) rfl, HK9.out.below (Below.setCells (Nat.le_refl _) _ _ (one_al _ _)), bt HB9.out (Below.setCells (Nat.le_refl _) _ _ (one_al _ _))⟩
  case rest =>
  revert wc
  intro wb hcut
  obtain ⟨γ, x0, y0, x1, y1, x2, y2, x3, y3, rfl, hx9, hk9, hb9⟩ := hcut
  have HB9 : Hid (Below w.heap.size w wb) := bt HB8.out hb9
  have HK9 := hide hk9
  have FY := hide hx9
  replace FA := hide (FA.out.on hb9)
  replace FB := hide (FB.out.on hb9)
  replace FX := hide (FX.out.on hb9)
  replace HS8 := hide (HS8.out.below hb9)
  clear hb9 hk9 hx9 HB8
  go_step
  go_step
  go_cut [9] from 10 (fun v wc => v = .bool (lawB Ss Ms Ts && slipB Ss Ts S) ∧ Below wb.heap.size wb wc)
  case first =>
    have g0 := FX.out.cell
    go_wp2_with (refine wpList_load_mid rfl 75 (.tmp 8) rfl (γ) 0 rfl (slL S x0 y0 x1 y1 x2 y2 x3 y3) _ (FY.out.range rfl) Tryz.underlying75 rfl slip_size ?_)
    clear g0
    refine (implSlip_any _ _ _ _ _ _ _ Ss Ms Ts S _ HS8.out HK9.out).mono ?_
    rintro e wd ⟨rfl, hbb⟩
    have HBb := hide hbb
    clear hbb
    go_wp2
    go_meet
    exact ⟨rfl, HBb.out⟩
  case rest =>
  revert wc
  intro wd hcut
  obtain ⟨rfl, hbb⟩ := hcut
  have HBb : Hid (Below w.heap.size w wd) := bt HB9.out hbb
  replace FA := hide (FA.out.on hbb)
  replace FB := hide (FB.out.on hbb)
  replace FX := hide (FX.out.on hbb)
  replace FY := hide (FY.out.on hbb)
  replace HS8 := hide (HS8.out.below hbb)
  replace HK9 := hide (HK9.out.below hbb)
  clear hbb HB9
  generalize hQ : (lawB Ss Ms Ts && slipB Ss Ts S) = Q
  clear hQ
  go_wp2
  have HLb := hide (HL.out.below HBb.out)
  have KP : Hid (∀ W, Below wd.heap.size wd W → (fun W => W.rangeAt β 0 [.slice b Ss.length c0, .slice b1 Ms.length c1, .slice b2 Ts.length c2] ∧ W.rangeAt w.heap.size 0 [.slice a Ss.length cap, .slice a1 Ms.length cap1, .slice a2 Ts.length cap2]) W) := fun W hW => ⟨(FX.out.on hW).range rfl, (FA.out.on hW).range rfl⟩
  clear FA FX
  refine wp_region_held_drew (S := fun W => W.rangeAt β 0 [.slice b Ss.length c0, .slice b1 Ms.length c1, .slice b2 Ts.length c2] ∧ W.rangeAt w.heap.size 0 [.slice a Ss.length cap, .slice a1 Ms.length cap1, .slice a2 Ts.length cap2]) (by kernel_rfl) (KP.out _ ((Below.refl _ _).drew)) (fun hHeld => ?_)
  refine wpAnyH_take (i := 0) rfl (by kernel_rfl) (by kernel_rfl) (by kernel_rfl) (fun _ _ _ h => h) (yieldsIf_load_mid (by rfl) 47 (.tmp 7) rfl (β) 0 rfl [.slice b Ss.length c0, .slice b1 Ms.length c1, .slice b2 Ts.length c2] _ (fun _ h => h.1) Tryz.underlying47 rfl law_size) hHeld ?_
  simp only [Act.put, List.setIfInBounds_toArray]
  refine wpAnyH_take (i := 1) rfl (by kernel_rfl) (by kernel_rfl) (by kernel_rfl) (fun _ _ _ h => h) (yieldsIf_load_mid (by rfl) 26 (.tmp 2) rfl (w.heap.size) 0 rfl [.slice a Ss.length cap, .slice a1 Ms.length cap1, .slice a2 Ts.length cap2] _ (fun _ h => h.2) Tryz.underlying26 rfl law_sizeL) hHeld ?_
  simp only [Act.put]
  refine wpAnyH_ready (rs := [2]) (by kernel_rfl) (by simp) ?_
  refine AllReadyH.cons rfl (fun K hK => ?_) AllReadyH.nil
  go_simp
  refine (toLaw_any 0 _ _ _ Ss Ms Ts _ (HLb.out.below ((Below.refl _ _).drew)) hLm.out).mono ?_
  rintro e we ⟨d, f0, d1, f1, d2, f2, rfl, hbe, hse⟩
  have HC8 : Hid (Below wd.heap.size wd we) := bt ((Below.refl _ _).drew) hbe
  have HSe := hide hse
  clear hse hbe
  try go_wp2_with fail
  refine hK.out _ _ (KP.out _ HC8.out) (fun hHeld => ?_)
  clear hK K
  try simp only [Act.put, List.setIfInBounds_toArray, List.set_cons_zero, List.set_cons_succ]
  refine wpAnyH_ready (rs := [3]) (by kernel_rfl) (by simp) ?_
  refine AllReadyH.cons rfl (fun K hK => ?_) AllReadyH.nil
  go_simp
  refine (eqLaw_same _ _ _ _ Ss Ms Ts _ _ _ _ _ (HS8.out.below HC8.out) HSe.out).mono ?_
  rintro e wf ⟨rfl, hbf⟩
  have HC9 : Hid (Below wd.heap.size wd wf) := bt HC8.out hbf
  clear hbf
  try go_wp2_with fail
  refine hK.out _ _ (KP.out _ HC9.out) (fun hHeld => ?_)
  clear hK K
  try simp only [Act.put, List.setIfInBounds_toArray, List.set_cons_zero, List.set_cons_succ]
  refine wpAnyH_ready (rs := [4]) (by kernel_rfl) (by simp) ?_
  refine AllReadyH.cons rfl (fun K hK => ?_) AllReadyH.nil
  go_simp
  refine hK.out _ _ (KP.out _ HC9.out) (fun hHeld => ?_)
  clear hK K
  try simp only [Act.put, List.setIfInBounds_toArray, List.set_cons_zero, List.set_cons_succ]
  refine wpAnyH_done (by kernel_rfl) ?_ _
  have HBf : Hid (Below w.heap.size w wf) := bt HBb.out HC9.out
  replace FB := hide (FB.out.on HC9.out)
  replace FY := hide (FY.out.on HC9.out)
  replace HK9 := hide (HK9.out.below HC9.out)
  clear HBb HC8 HSe HC9 HLb HS8 KP hHeld
  go_wp2
  have HKf := hide (HK.out.below HBf.out)
  have KP : Hid (∀ W, Below wf.heap.size wf W → (fun W => W.rangeAt γ 0 (slL S x0 y0 x1 y1 x2 y2 x3 y3) ∧ W.rangeAt (w.heap.size + 1) 0 (slL S oa0 oc0 oa1 oc1 oa2 oc2 oa3 oc3)) W) := fun W hW => ⟨(FY.out.on hW).range rfl, (FB.out.on hW).range rfl⟩
  clear FB FY
  refine wp_region_held_drew (S := fun W => W.rangeAt γ 0 (slL S x0 y0 x1 y1 x2 y2 x3 y3) ∧ W.rangeAt (w.heap.size + 1) 0 (slL S oa0 oc0 oa1 oc1 oa2 oc2 oa3 oc3)) (by kernel_rfl) (KP.out _ ((Below.refl _ _).drew)) (fun hHeld => ?_)
  refine wpAnyH_take (i := 0) rfl (by kernel_rfl) (by kernel_rfl) (by kernel_rfl) (fun _ _ _ h => h) (yieldsIf_load_mid (by rfl) 75 (.tmp 8) rfl (γ) 0 rfl (slL S x0 y0 x1 y1 x2 y2 x3 y3) _ (fun _ h => h.1) Tryz.underlying75 rfl slip_size) hHeld ?_
  simp only [Act.put, List.setIfInBounds_toArray]
  refine wpAnyH_take (i := 1) rfl (by kernel_rfl) (by kernel_rfl) (by kernel_rfl) (fun _ _ _ h => h) (yieldsIf_load_mid (by rfl) 67 (.tmp 3) rfl (w.heap.size + 1) 0 rfl (slL S oa0 oc0 oa1 oc1 oa2 oc2 oa3 oc3) _ (fun _ h => h.2) Tryz.underlying67 rfl slip_sizeL) hHeld ?_
  simp only [Act.put]
  refine wpAnyH_ready (rs := [2]) (by kernel_rfl) (by simp) ?_
  refine AllReadyH.cons rfl (fun K hK => ?_) AllReadyH.nil
  go_simp
  refine (toSlipL _ _ _ _ _ _ _ _ S _ (HKf.out.below ((Below.refl _ _).drew)) hBm.out).mono ?_
  rintro e wg ⟨z0, t0, z1, t1, z2, t2, z3, t3, rfl, hbg, hkg⟩
  have HC10 : Hid (Below wf.heap.size wf wg) := bt ((Below.refl _ _).drew) hbg
  have HKg := hide hkg
  clear hkg hbg
  try go_wp2_with fail
  refine hK.out _ _ (KP.out _ HC10.out) (fun hHeld => ?_)
  clear hK K
  try simp only [Act.put, List.setIfInBounds_toArray, List.set_cons_zero, List.set_cons_succ]
  refine wpAnyH_ready (rs := [3]) (by kernel_rfl) (by simp) ?_
  refine AllReadyH.cons rfl (fun K hK => ?_) AllReadyH.nil
  go_simp
  refine (eqSlip_same _ _ _ _ _ S _ _ _ _ _ _ (HK9.out.below HC10.out) HKg.out).mono ?_
  rintro e wh ⟨rfl, hbh⟩
  have HC11 : Hid (Below wf.heap.size wf wh) := bt HC10.out hbh
  clear hbh
  try go_wp2_with fail
  refine hK.out _ _ (KP.out _ HC11.out) (fun hHeld => ?_)
  clear hK K
  try simp only [Act.put, List.setIfInBounds_toArray, List.set_cons_zero, List.set_cons_succ]
  refine wpAnyH_ready (rs := [4]) (by kernel_rfl) (by simp) ?_
  refine AllReadyH.cons rfl (fun K hK => ?_) AllReadyH.nil
  go_simp
  refine hK.out _ _ (KP.out _ HC11.out) (fun hHeld => ?_)
  clear hK K
  try simp only [Act.put, List.setIfInBounds_toArray, List.set_cons_zero, List.set_cons_succ]
  refine wpAnyH_done (by kernel_rfl) ?_ _
  go_wp2
  go_ret
  exact ⟨rfl, bt HBf.out HC11.out⟩
end Go.Proofs.YtfohnageehneoaaGreat

