import Derived.Test.YtlgakpnjicdblabGreatNZ
namespace Go.Proofs.YtlgakpnjicdblabGreat
open Go.RowKit Go.Deep

section
variable (kind nm team : ByteArray) (vv hv sv mv : Value) (en : Bool) (ver : Int) (V Ho : List ByteArray) (Ss : List Sh) (Ms : List Md) (w : World) (lo lm : Nat)

set_option maxRecDepth 20000 in
set_option maxHeartbeats 8000000 in
theorem law_mended (hS : ShsAt lo w sv Ss) (hMd : MdsAt lm w mv Ms) (hV : StrsAt w vv V) (hH : StrsAt w hv Ho) (s1 : kind.size ≤ maxLen) (s2 : nm.size ≤ maxLen) (s3 : team.size ≤ maxLen) :
    Calls Tryz.prog 3 #[sv, mv, .agg #[.string kind, .string nm, .string team, vv, .bool en, hv, .int .i64 ver]] w fun e w' => e = .returned (.bool true) ∧ Below w.heap.size w w' := by
  obtain ⟨F, hrel⟩ := MendTo.exists Ss Ms kind V
  have HREL := hide hrel
  have HFL : Hid (F.length = V.length) := hrel.len
  have HV := hide hV
  have HH := hide hH
  have HS := hide hS
  have HMd := hide hMd
  obtain ⟨a, cap, rfl⟩ := hV.form'
  obtain ⟨a', cap', rfl⟩ := hH.form'
  obtain ⟨a1, cap1, rfl⟩ := hS.form
  obtain ⟨ma, mcap, rfl⟩ := hMd.form
  clear hV hH hS hMd hrel
  have HW : ∀ o, Hid (Below w.heap.size w (w.alloc o)) := fun o => (Below.refl _ _).alloc (Nat.le_refl _) _
  have HN : ∀ cs t, Hid (Box (w.alloc (.cells cs t)) w.heap.size cs) := fun cs t => Box.new _ _ _ _ rfl
  go_enter Tryz.func3, Tryz.ntmps3
  go_wp2_with fail
  refine (szShs_any lo _ Ss _ _ (by omega) (by omega) (HS.out.below (HW _).out)).mono ?_
  rintro e w1 ⟨r, rfl, hb1, hr0, hr1, hr2⟩
  have HB1 : Hid (Below w.heap.size w w1) := (HW _).out.trans (hb1.mono (by simp))
  have HA1 : Hid (Box w1 w.heap.size _) := (HN _ _).out.on hb1
  have HQ := hide hr2
  clear hb1 hr2
  by_cases hneg : r < 0
  · go_wp2
    go_ret
    exact ⟨rfl, HB1.out⟩
  have hSm : Hid (ShsSmall Ss) := HQ.out (by omega)
  clear HQ
  go_wp2_with fail
  refine (szMds_any lm _ Ms r _ (by omega) (by omega) (HMd.out.below HB1.out)).mono ?_
  rintro e w1b ⟨rb, rfl, hb1b, hp0, hp1, hp2⟩
  have HB1b : Hid (Below w.heap.size w w1b) := HB1.out.trans (hb1b.mono HB1.out.size)
  have HA1b : Hid (Box w1b w.heap.size _) := HA1.out.on hb1b
  have HQ := hide hp2
  clear hb1b hp2 HA1 HB1
  by_cases hnegb : rb < 0
  · go_wp2
    go_ret
    exact ⟨rfl, HB1b.out⟩
  have hMm : Hid (Ms.length ≤ 1048576) := by have := HQ.out (by omega); unfold Hid; omega
  clear HQ
  have g1 := HA1b.out.cell
  go_wp2_with fail
  refine (szObj_any _ _ _ _ _ _ _ V Ho _ rb (HV.out.below HB1b.out) (HH.out.below HB1b.out) (by omega) (by omega) s1 s2 s3).mono ?_
  rintro e w2 ⟨r2, rfl, hb2, hq0, hq1, hq2⟩
  have HB2 : Hid (Below w.heap.size w w2) := HB1b.out.trans (hb2.mono HB1b.out.size)
  have HA2 : Hid (Box w2 w.heap.size _) := HA1b.out.on hb2
  have HQ2 := hide hq2
  clear hb2 hq2 g1 HA1b
  by_cases hneg2 : r2 < 0
  · go_wp2
    go_ret
    exact ⟨rfl, HB2.out⟩
  have HM : Hid (V.length ≤ 1048576 ∧ Ho.length ≤ 1048576) := by have := HQ2.out (by omega); unfold Hid; omega
  clear HQ2 hr0 hr1 hq0 hq1 hp0 hp1 hneg hnegb
  go_wp2_with fail
  clear hneg2
  go_cut [8] (fun p wc => ∃ β, p = .pointer (some ⟨β, 0, none⟩) ∧ w2.heap.size ≤ β ∧ AnsAt wc β kind nm team en ver F Ho ∧ Held w #[Value.string kind, .string nm, .string team, .slice a V.length cap, .bool en, .slice a' Ho.length cap', .int .i64 ver] wc ∧ Below w2.heap.size w2 wc)
  case first =>
    have hlt2 : w.heap.size < w2.heap.size := HA2.out.lt
    go_region_held3 (fun W => (∀ i, W.cell? ⟨w.heap.size, i, none⟩ = (#[Value.string kind, .string nm, .string team, .slice a V.length cap, .bool en, .slice a' Ho.length cap', .int .i64 ver] : Array Value)[i]?) ∧ w.heap.size < W.heap.size ∧ Hid (Below w.heap.size w W ∧ ∀ i, W.frozen? ⟨w.heap.size, i, none⟩ = false))
      (first
        | (with_reducible exact Held.drew HA2.out HB2.out)
        | (with_reducible exact Held.drew (HA2.out.on (one_al _ _)) (HB2.out.alloc HB2.out.size _))
        | (with_reducible exact Held.on (by assumption) (by assumption))
        | (with_reducible (refine Held.alloc ?_ _; assumption))
        | (with_reducible exact Held.swap (by assumption) hlt5 _)
        | (refine Held.set ?_ (by simp only []; omega) _
           refine Held.set ?_ (by simp only []; omega) _
           refine Held.set ?_ (by simp only []; omega) _
           refine Held.set ?_ (by simp only []; omega) _
           refine Held.set ?_ (by simp only []; omega) _
           refine Held.set ?_ (by simp only []; omega) _
           refine Held.set ?_ (by simp only []; omega) _
           with_reducible assumption))
      (first
        | (go_at_call 9
           refine (toShsO_any lo _ Ss _ (Held.shs (by assumption) HS.out) hSm.out).mono ?_
           rintro e w3 ⟨v3, rfl, hb3, hs3, hw3⟩
           have hlt3 : w.heap.size < w3.heap.size := (Held.on (w := w) (cs := #[Value.string kind, .string nm, .string team, .slice a V.length cap, .bool en, .slice a' Ho.length cap', .int .i64 ver]) (by assumption) hb3).2.1
           obtain ⟨a3, cap3, rfl⟩ := hs3.form
           have HS3 := hide hs3
           try (have HX : Hid (Box w3 w2.heap.size #[Value.string ⟨#[]⟩, .string ⟨#[]⟩, .string ⟨#[]⟩, .slice none 0 0, .bool false, .slice none 0 0, .int .i64 0]) := by with_reducible exact hide (Box.on (Box.drew (Box.new w2 _ 30 _ rfl)) hb3))
           first | (have HD3 : Hid (Below w2.heap.size w2 w3) := by with_reducible exact hide (drew_on hb3)) | (have HD3 : Hid (Below w2.heap.size w2 w3) := by with_reducible exact hide (al_drew_on hb3))
           clear hw3 hs3)
        | (go_at_call 10
           refine (toMdsO_any lm _ Ms _ (Held.mds (by assumption) HMd.out) hMm.out).mono ?_
           rintro e wm ⟨vm, rfl, hbm, hsm, hwm⟩
           have hltm : w.heap.size < wm.heap.size := (Held.on (w := w) (cs := #[Value.string kind, .string nm, .string team, .slice a V.length cap, .bool en, .slice a' Ho.length cap', .int .i64 ver]) (by assumption) hbm).2.1
           obtain ⟨am, capm, rfl⟩ := hsm.form
           have HMm := hide hsm
           have HSm : Hid (ShsAt _ wm _ Ss) := HS3.out.below (by first | exact hbm | exact below_al hbm)
           first | (have HXm : Hid (Box wm w3.heap.size #[Value.string ⟨#[]⟩, .string ⟨#[]⟩, .string ⟨#[]⟩, .slice none 0 0, .bool false, .slice none 0 0, .int .i64 0]) := by with_reducible exact hide (Box.on (Box.new w3 _ 30 _ rfl) hbm)) | (have HXm := hide (HX.out.on hbm)) | skip
           first | (have HDm : Hid (Below w2.heap.size w2 wm) := by with_reducible exact hide (bt HD3.out hbm)) | (have HDm : Hid (Below w2.heap.size w2 wm) := by with_reducible exact hide (bt HD3.out (below_al hbm)))
           clear hwm hsm HS3)
        | (go_at_call 11
           refine (toObjO_any _ _ _ _ _ _ _ V Ho _ (Held.strs (by assumption) HV.out) (Held.strs (by assumption) HH.out) HM.out.1 HM.out.2).mono ?_
           rintro e w4 ⟨v4, h4, rfl, hb4, mid4, hlo4, hhi4, hv4, hh4⟩
           have hlt4 : w.heap.size < w4.heap.size := (Held.on (w := w) (cs := #[Value.string kind, .string nm, .string team, .slice a V.length cap, .bool en, .slice a' Ho.length cap', .int .i64 ver]) (by assumption) hb4).2.1
           obtain ⟨a4, cap4, rfl⟩ := hv4.form
           obtain ⟨a4', cap4', rfl⟩ := hh4.form
           have HV4 := hide hv4.at
           have HH4 := hide hh4.at
           have HS4 : Hid (ShsAt _ w4 _ Ss) := HSm.out.below (by first | exact hb4 | exact below_al hb4)
           have HM4 : Hid (MdsAt _ w4 _ Ms) := HMm.out.below (by first | exact hb4 | exact below_al hb4)
           first | (have HX4 : Hid (Box w4 wm.heap.size #[Value.string ⟨#[]⟩, .string ⟨#[]⟩, .string ⟨#[]⟩, .slice none 0 0, .bool false, .slice none 0 0, .int .i64 0]) := by with_reducible exact hide (Box.on (Box.new wm _ 30 _ rfl) hb4)) | (have HX4 := hide (HXm.out.on hb4)) | skip
           first | (have HD4 : Hid (Below w2.heap.size w2 w4) := by with_reducible exact hide (bt HDm.out hb4)) | (have HD4 : Hid (Below w2.heap.size w2 w4) := by with_reducible exact hide (bt HDm.out (below_al hb4)))
           clear hv4 hh4 hlo4 hhi4 HSm HMm)
        | (go_at_call 8
           refine (specMendedF_any _ _ _ _ _ _ _ _ _ V Ho Ss Ms F _ _ _ (by first | exact HS4.out | exact HS4.out.below (one_al _ _)) (by first | exact HM4.out | exact HM4.out.below (one_al _ _)) (by first | exact HV4.out | exact HV4.out.below (one_al _ _)) (by first | exact HH4.out | exact HH4.out.below (one_al _ _)) HM.out.1 HM.out.2 HREL.out).mono ?_
           rintro e w5 ⟨v5, h5, rfl, hb5, mid5, hlo5, hhi5, hv5, hh5⟩
           obtain ⟨a5, cap5, rfl⟩ := hv5.form
           obtain ⟨a6, cap6, rfl⟩ := hh5.form
           have hlt5 : w.heap.size < w5.heap.size := (Held.on (w := w) (cs := #[Value.string kind, .string nm, .string team, .slice a V.length cap, .bool en, .slice a' Ho.length cap', .int .i64 ver]) (by assumption) hb5).2.1
           first | (have HD5 : Hid (Below w2.heap.size w2 w5) := by with_reducible exact hide (bt HD4.out hb5)) | (have HD5 : Hid (Below w2.heap.size w2 w5) := by with_reducible exact hide (bt HD4.out (below_al hb5)))
           have HV5 := hide hv5
           have HH5 := hide hh5
           have HL5 := hide hlo5
           have HI5 := hide hhi5
           first | (have HX5 : Hid (Box w5 w4.heap.size #[Value.string ⟨#[]⟩, .string ⟨#[]⟩, .string ⟨#[]⟩, .slice none 0 0, .bool false, .slice none 0 0, .int .i64 0]) := by with_reducible exact hide (Box.on (Box.new w4 _ 30 _ rfl) hb5)) | (have HX5 := hide (HX4.out.on hb5)) | skip
           try (have rr := HX5.out.cell
                have rf := HX5.out.free
                have rl := HX5.out.lt
                have r0 : _ = some (Value.string ⟨#[]⟩) := rr 0
                have r1 : _ = some (Value.string ⟨#[]⟩) := rr 1
                have r2' : _ = some (Value.string ⟨#[]⟩) := rr 2
                have r3 : _ = some (Value.slice none 0 0) := rr 3
                have r4 : _ = some (Value.bool false) := rr 4
                have r5 : _ = some (Value.slice none 0 0) := rr 5
                have r6 : _ = some (Value.int .i64 0) := rr 6
                clear rr)
           clear hv5 hh5 hlo5 hhi5))
    all_goals (go_wp2_with fail)
    all_goals go_meet
    · exact ⟨_, rfl, HD5.out.size, ans_new kind nm team en ver HV5.out HH5.out HI5.out, by with_reducible assumption, al_below HD5.out _⟩
    · exact ⟨_, rfl, HD4.out.size, ans_set kind nm team en ver HX5.out HV5.out HH5.out (by simp) HL5.out HI5.out, by with_reducible assumption, below_set7 HD5.out HD4.out.size⟩
    · exact ⟨_, rfl, HDm.out.size, ans_set kind nm team en ver HX5.out HV5.out HH5.out HX4.out.lt HL5.out HI5.out, by with_reducible assumption, below_set7 HD5.out HDm.out.size⟩
    · exact ⟨_, rfl, HD3.out.size, ans_set kind nm team en ver HX5.out HV5.out HH5.out HX4.out.lt HL5.out HI5.out, by with_reducible assumption, below_set7 HD5.out HD3.out.size⟩
    · exact ⟨_, rfl, Nat.le_refl _, ans_set kind nm team en ver HX5.out HV5.out HH5.out HX4.out.lt HL5.out HI5.out, by with_reducible assumption, below_set7 HD5.out (Nat.le_refl _)⟩
  case rest =>
    revert wc
    intro Wc hcut
    obtain ⟨β, rfl, hβ, ⟨a5, cap5, a6, cap6, hx5, ho5, ho6⟩, hheld, hbc⟩ := hcut
    have hzβ := hx5.lt
    have hzw : w.heap.size < w2.heap.size := HA2.out.lt
    have FB : Hid (Below w.heap.size w Wc) := hheld.2.2.out.1
    have FA : Hid (Box Wc w.heap.size #[Value.string kind, .string nm, .string team, .slice a V.length cap, .bool en, .slice a' Ho.length cap', .int .i64 ver]) := hheld.box
    have FW := hide hx5
    have FV := hide ho5
    have FH := hide ho6
    clear hx5 ho5 ho6 hheld hbc HA2 HB2 HB1b HN HW
    go_wp2_with fail
    refine (toShsO_any lo _ Ss _ (HS.out.below FB.out) hSm.out).mono ?_
    rintro e w6 ⟨v6, rfl, hb6, hs6, hw6⟩
    have hz6 := hb6.size
    have FB : Hid (Below w.heap.size w w6) := FB.out.trans (hb6.mono FB.out.size)
    have FA : Hid (Box w6 w.heap.size #[Value.string kind, .string nm, .string team, .slice a V.length cap, .bool en, .slice a' Ho.length cap', .int .i64 ver]) := FA.out.on hb6
    have FW : Hid (Box w6 β #[Value.string kind, .string nm, .string team, .slice a5 F.length cap5, .bool en, .slice a6 Ho.length cap6, .int .i64 ver]) := FW.out.on hb6
    have FV : Hid (StrsOwn 0 Wc.heap.size w6 (.slice a5 F.length cap5) F) := FV.out.below hb6
    have FH : Hid (StrsOwn 0 Wc.heap.size w6 (.slice a6 Ho.length cap6) Ho) := FH.out.below hb6
    obtain ⟨a7, cap7, rfl⟩ := hs6.form
    have FS := hide hs6
    have FSW := hide hw6
    clear hb6 hs6 hw6
    go_wp2_with fail
    refine (toMdsO_any lm _ Ms _ (HMd.out.below FB.out) hMm.out).mono ?_
    rintro e wm ⟨vm, rfl, hbm, hsm, hwm⟩
    have hzm := hbm.size
    have FB : Hid (Below w.heap.size w wm) := FB.out.trans (hbm.mono FB.out.size)
    have FA : Hid (Box wm w.heap.size #[Value.string kind, .string nm, .string team, .slice a V.length cap, .bool en, .slice a' Ho.length cap', .int .i64 ver]) := FA.out.on hbm
    have FW : Hid (Box wm β #[Value.string kind, .string nm, .string team, .slice a5 F.length cap5, .bool en, .slice a6 Ho.length cap6, .int .i64 ver]) := FW.out.on hbm
    have FV : Hid (StrsOwn 0 Wc.heap.size wm (.slice a5 F.length cap5) F) := FV.out.below hbm
    have FH : Hid (StrsOwn 0 Wc.heap.size wm (.slice a6 Ho.length cap6) Ho) := FH.out.below hbm
    have FS : Hid (ShsAt Wc.heap.size wm (.slice a7 Ss.length cap7) Ss) := FS.out.below hbm
    have FSW : Hid (ShsW Wc.heap.size w6.heap.size wm (.slice a7 Ss.length cap7) Ss.length) := FSW.out.below hbm
    obtain ⟨am, capm, rfl⟩ := hsm.form
    have FM := hide hsm
    have FMW := hide hwm
    clear hbm hsm hwm
    have g1 := FA.out.cell
    go_wp2_with fail
    refine (toObjO_any _ _ _ _ _ _ _ V Ho _ (HV.out.below FB.out) (HH.out.below FB.out) HM.out.1 HM.out.2).mono ?_
    rintro e w7 ⟨v7, h7, rfl, hb7, mid7, hlo7, hmi7, ho7, ho8⟩
    have hz7 := hb7.size
    have FB : Hid (Below w.heap.size w w7) := FB.out.trans (hb7.mono FB.out.size)
    have FA : Hid (Box w7 w.heap.size #[Value.string kind, .string nm, .string team, .slice a V.length cap, .bool en, .slice a' Ho.length cap', .int .i64 ver]) := FA.out.on hb7
    have FW : Hid (Box w7 β #[Value.string kind, .string nm, .string team, .slice a5 F.length cap5, .bool en, .slice a6 Ho.length cap6, .int .i64 ver]) := FW.out.on hb7
    have FV : Hid (StrsOwn 0 Wc.heap.size w7 (.slice a5 F.length cap5) F) := FV.out.below hb7
    have FH : Hid (StrsOwn 0 Wc.heap.size w7 (.slice a6 Ho.length cap6) Ho) := FH.out.below hb7
    have FS : Hid (ShsAt Wc.heap.size w7 (.slice a7 Ss.length cap7) Ss) := FS.out.below hb7
    have FSW : Hid (ShsW Wc.heap.size w6.heap.size w7 (.slice a7 Ss.length cap7) Ss.length) := FSW.out.below hb7
    have FM : Hid (MdsAt w6.heap.size w7 (.slice am Ms.length capm) Ms) := FM.out.below hb7
    have FMW : Hid (MdsW w6.heap.size wm.heap.size w7 (.slice am Ms.length capm) Ms.length) := FMW.out.below hb7
    obtain ⟨a8, cap8, rfl⟩ := ho7.form
    obtain ⟨a9, cap9, rfl⟩ := ho8.form
    have FXV := hide ho7
    have FXH := hide ho8
    clear hb7 ho7 ho8 g1
    go_wp2_with fail
    generalize hW7 : w7.alloc _ = W7
    have hbW7 : Below w7.heap.size w7 W7 := by rw [← hW7]; exact one_al _ _
    have FX : Hid (Box W7 w7.heap.size #[Value.string kind, .string nm, .string team, .slice a8 V.length cap8, .bool en, .slice a9 Ho.length cap9, .int .i64 ver]) := by rw [← hW7]; exact Box.new _ _ _ _ rfl
    have hz7' : W7.heap.size = w7.heap.size + 1 := by rw [← hW7]; simp
    have FB : Hid (Below w.heap.size w W7) := FB.out.trans (hbW7.mono FB.out.size)
    have FA : Hid (Box W7 w.heap.size #[Value.string kind, .string nm, .string team, .slice a V.length cap, .bool en, .slice a' Ho.length cap', .int .i64 ver]) := FA.out.on hbW7
    have FW : Hid (Box W7 β #[Value.string kind, .string nm, .string team, .slice a5 F.length cap5, .bool en, .slice a6 Ho.length cap6, .int .i64 ver]) := FW.out.on hbW7
    have FV : Hid (StrsOwn 0 Wc.heap.size W7 (.slice a5 F.length cap5) F) := FV.out.below hbW7
    have FH : Hid (StrsOwn 0 Wc.heap.size W7 (.slice a6 Ho.length cap6) Ho) := FH.out.below hbW7
    have FS : Hid (ShsAt Wc.heap.size W7 (.slice a7 Ss.length cap7) Ss) := FS.out.below hbW7
    have FSW : Hid (ShsW Wc.heap.size w6.heap.size W7 (.slice a7 Ss.length cap7) Ss.length) := FSW.out.below hbW7
    have FM : Hid (MdsAt w6.heap.size W7 (.slice am Ms.length capm) Ms) := FM.out.below hbW7
    have FMW : Hid (MdsW w6.heap.size wm.heap.size W7 (.slice am Ms.length capm) Ms.length) := FMW.out.below hbW7
    have FXV : Hid (StrsOwn wm.heap.size mid7 W7 (.slice a8 V.length cap8) V) := FXV.out.below hbW7
    have FXH : Hid (StrsOwn mid7 w7.heap.size W7 (.slice a9 Ho.length cap9) Ho) := FXH.out.below hbW7
    clear hbW7 hW7
    refine (implMendedF_any _ _ _ _ _ _ _ _ _ V Ho Ss Ms F _ _ _ FS.out FM.out FXV.out.at FXH.out.at HM.out.1 HM.out.2 HREL.out).mono ?_
    rintro e w8 ⟨v8, h8, rfl, hb8, mid8, hlo8, hmi8, ho7, ho8⟩
    have hz8 := hb8.size
    have FB : Hid (Below w.heap.size w w8) := FB.out.trans (hb8.mono FB.out.size)
    have FA : Hid (Box w8 w.heap.size #[Value.string kind, .string nm, .string team, .slice a V.length cap, .bool en, .slice a' Ho.length cap', .int .i64 ver]) := FA.out.on hb8
    have FW : Hid (Box w8 β #[Value.string kind, .string nm, .string team, .slice a5 F.length cap5, .bool en, .slice a6 Ho.length cap6, .int .i64 ver]) := FW.out.on hb8
    have FV : Hid (StrsOwn 0 Wc.heap.size w8 (.slice a5 F.length cap5) F) := FV.out.below hb8
    have FH : Hid (StrsOwn 0 Wc.heap.size w8 (.slice a6 Ho.length cap6) Ho) := FH.out.below hb8
    have FS : Hid (ShsAt Wc.heap.size w8 (.slice a7 Ss.length cap7) Ss) := FS.out.below hb8
    have FSW : Hid (ShsW Wc.heap.size w6.heap.size w8 (.slice a7 Ss.length cap7) Ss.length) := FSW.out.below hb8
    have FM : Hid (MdsAt w6.heap.size w8 (.slice am Ms.length capm) Ms) := FM.out.below hb8
    have FMW : Hid (MdsW w6.heap.size wm.heap.size w8 (.slice am Ms.length capm) Ms.length) := FMW.out.below hb8
    have FXV : Hid (StrsOwn wm.heap.size mid7 w8 (.slice a8 V.length cap8) V) := FXV.out.below hb8
    have FXH : Hid (StrsOwn mid7 w7.heap.size w8 (.slice a9 Ho.length cap9) Ho) := FXH.out.below hb8
    have FX : Hid (Box w8 w7.heap.size #[Value.string kind, .string nm, .string team, .slice a8 V.length cap8, .bool en, .slice a9 Ho.length cap9, .int .i64 ver]) := FX.out.on hb8
    obtain ⟨a10, cap10, rfl⟩ := ho7.form
    obtain ⟨a11, cap11, rfl⟩ := ho8.form
    have FGV := hide ho7
    have FGH := hide ho8
    clear hb8 ho7 ho8
    have g1 := FW.out.cell
    have g2 : β < w8.heap.size := FW.out.lt
    go_wp2_with fail
    generalize hW8 : w8.alloc _ = W8
    have hbW8 : Below w8.heap.size w8 W8 := by rw [← hW8]; exact one_al _ _
    have FG : Hid (Box W8 w8.heap.size #[Value.string kind, .string nm, .string team, .slice a10 F.length cap10, .bool en, .slice a11 Ho.length cap11, .int .i64 ver]) := by rw [← hW8]; exact Box.new _ _ _ _ rfl
    have hz8' : W8.heap.size = w8.heap.size + 1 := by rw [← hW8]; simp
    have FB : Hid (Below w.heap.size w W8) := FB.out.trans (hbW8.mono FB.out.size)
    have FA : Hid (Box W8 w.heap.size #[Value.string kind, .string nm, .string team, .slice a V.length cap, .bool en, .slice a' Ho.length cap', .int .i64 ver]) := FA.out.on hbW8
    have FW : Hid (Box W8 β #[Value.string kind, .string nm, .string team, .slice a5 F.length cap5, .bool en, .slice a6 Ho.length cap6, .int .i64 ver]) := FW.out.on hbW8
    have FV : Hid (StrsOwn 0 Wc.heap.size W8 (.slice a5 F.length cap5) F) := FV.out.below hbW8
    have FH : Hid (StrsOwn 0 Wc.heap.size W8 (.slice a6 Ho.length cap6) Ho) := FH.out.below hbW8
    have FS : Hid (ShsAt Wc.heap.size W8 (.slice a7 Ss.length cap7) Ss) := FS.out.below hbW8
    have FSW : Hid (ShsW Wc.heap.size w6.heap.size W8 (.slice a7 Ss.length cap7) Ss.length) := FSW.out.below hbW8
    have FM : Hid (MdsAt w6.heap.size W8 (.slice am Ms.length capm) Ms) := FM.out.below hbW8
    have FMW : Hid (MdsW w6.heap.size wm.heap.size W8 (.slice am Ms.length capm) Ms.length) := FMW.out.below hbW8
    have FXV : Hid (StrsOwn wm.heap.size mid7 W8 (.slice a8 V.length cap8) V) := FXV.out.below hbW8
    have FXH : Hid (StrsOwn mid7 w7.heap.size W8 (.slice a9 Ho.length cap9) Ho) := FXH.out.below hbW8
    have FX : Hid (Box W8 w7.heap.size #[Value.string kind, .string nm, .string team, .slice a8 V.length cap8, .bool en, .slice a9 Ho.length cap9, .int .i64 ver]) := FX.out.on hbW8
    have FGV : Hid (StrsOwn W7.heap.size mid8 W8 (.slice a10 F.length cap10) F) := FGV.out.below hbW8
    have FGH : Hid (StrsOwn mid8 w8.heap.size W8 (.slice a11 Ho.length cap11) Ho) := FGH.out.below hbW8
    clear hbW8 hW8 g1 g2
    refine (eqObj_same _ _ _ _ _ _ _ _ _ _ _ _ FGV.out.at FGH.out.at FV.out.at FH.out.at).mono ?_
    rintro e w9 ⟨rfl, hb9⟩
    have hz9 := hb9.size
    have FB : Hid (Below w.heap.size w w9) := FB.out.trans (hb9.mono FB.out.size)
    have FA : Hid (Box w9 w.heap.size #[Value.string kind, .string nm, .string team, .slice a V.length cap, .bool en, .slice a' Ho.length cap', .int .i64 ver]) := FA.out.on hb9
    have FW : Hid (Box w9 β #[Value.string kind, .string nm, .string team, .slice a5 F.length cap5, .bool en, .slice a6 Ho.length cap6, .int .i64 ver]) := FW.out.on hb9
    have FV : Hid (StrsOwn 0 Wc.heap.size w9 (.slice a5 F.length cap5) F) := FV.out.below hb9
    have FH : Hid (StrsOwn 0 Wc.heap.size w9 (.slice a6 Ho.length cap6) Ho) := FH.out.below hb9
    have FS : Hid (ShsAt Wc.heap.size w9 (.slice a7 Ss.length cap7) Ss) := FS.out.below hb9
    have FSW : Hid (ShsW Wc.heap.size w6.heap.size w9 (.slice a7 Ss.length cap7) Ss.length) := FSW.out.below hb9
    have FM : Hid (MdsAt w6.heap.size w9 (.slice am Ms.length capm) Ms) := FM.out.below hb9
    have FMW : Hid (MdsW w6.heap.size wm.heap.size w9 (.slice am Ms.length capm) Ms.length) := FMW.out.below hb9
    have FXV : Hid (StrsOwn wm.heap.size mid7 w9 (.slice a8 V.length cap8) V) := FXV.out.below hb9
    have FXH : Hid (StrsOwn mid7 w7.heap.size w9 (.slice a9 Ho.length cap9) Ho) := FXH.out.below hb9
    have FX : Hid (Box w9 w7.heap.size #[Value.string kind, .string nm, .string team, .slice a8 V.length cap8, .bool en, .slice a9 Ho.length cap9, .int .i64 ver]) := FX.out.on hb9
    have FGV : Hid (StrsOwn W7.heap.size mid8 w9 (.slice a10 F.length cap10) F) := FGV.out.below hb9
    have FGH : Hid (StrsOwn mid8 w8.heap.size w9 (.slice a11 Ho.length cap11) Ho) := FGH.out.below hb9
    have FG : Hid (Box w9 w8.heap.size #[Value.string kind, .string nm, .string team, .slice a10 F.length cap10, .bool en, .slice a11 Ho.length cap11, .int .i64 ver]) := FG.out.on hb9
    clear hb9
    go_wp2_with fail
    refine (toShsO_any lo _ Ss _ (HS.out.below FB.out) hSm.out).mono ?_
    rintro e w10 ⟨v10, rfl, hb10, hs10, hw10⟩
    have hz10 := hb10.size
    have FB : Hid (Below w.heap.size w w10) := FB.out.trans (hb10.mono FB.out.size)
    have FA : Hid (Box w10 w.heap.size #[Value.string kind, .string nm, .string team, .slice a V.length cap, .bool en, .slice a' Ho.length cap', .int .i64 ver]) := FA.out.on hb10
    have FW : Hid (Box w10 β #[Value.string kind, .string nm, .string team, .slice a5 F.length cap5, .bool en, .slice a6 Ho.length cap6, .int .i64 ver]) := FW.out.on hb10
    have FV : Hid (StrsOwn 0 Wc.heap.size w10 (.slice a5 F.length cap5) F) := FV.out.below hb10
    have FH : Hid (StrsOwn 0 Wc.heap.size w10 (.slice a6 Ho.length cap6) Ho) := FH.out.below hb10
    have FS : Hid (ShsAt Wc.heap.size w10 (.slice a7 Ss.length cap7) Ss) := FS.out.below hb10
    have FSW : Hid (ShsW Wc.heap.size w6.heap.size w10 (.slice a7 Ss.length cap7) Ss.length) := FSW.out.below hb10
    have FM : Hid (MdsAt w6.heap.size w10 (.slice am Ms.length capm) Ms) := FM.out.below hb10
    have FMW : Hid (MdsW w6.heap.size wm.heap.size w10 (.slice am Ms.length capm) Ms.length) := FMW.out.below hb10
    have FXV : Hid (StrsOwn wm.heap.size mid7 w10 (.slice a8 V.length cap8) V) := FXV.out.below hb10
    have FXH : Hid (StrsOwn mid7 w7.heap.size w10 (.slice a9 Ho.length cap9) Ho) := FXH.out.below hb10
    have FX : Hid (Box w10 w7.heap.size #[Value.string kind, .string nm, .string team, .slice a8 V.length cap8, .bool en, .slice a9 Ho.length cap9, .int .i64 ver]) := FX.out.on hb10
    have FGV : Hid (StrsOwn W7.heap.size mid8 w10 (.slice a10 F.length cap10) F) := FGV.out.below hb10
    have FGH : Hid (StrsOwn mid8 w8.heap.size w10 (.slice a11 Ho.length cap11) Ho) := FGH.out.below hb10
    have FG : Hid (Box w10 w8.heap.size #[Value.string kind, .string nm, .string team, .slice a10 F.length cap10, .bool en, .slice a11 Ho.length cap11, .int .i64 ver]) := FG.out.on hb10
    have HS10 := hide hs10
    clear hb10 hs10 hw10
    go_wp2_with fail
    refine (eqShs_same _ _ _ _ Ss _ FS.out HS10.out).mono ?_
    rintro e w11a ⟨rfl, hb11a⟩
    have hz11a := hb11a.size
    have FB : Hid (Below w.heap.size w w11a) := FB.out.trans (hb11a.mono FB.out.size)
    have FA : Hid (Box w11a w.heap.size #[Value.string kind, .string nm, .string team, .slice a V.length cap, .bool en, .slice a' Ho.length cap', .int .i64 ver]) := FA.out.on hb11a
    have FW : Hid (Box w11a β #[Value.string kind, .string nm, .string team, .slice a5 F.length cap5, .bool en, .slice a6 Ho.length cap6, .int .i64 ver]) := FW.out.on hb11a
    have FV : Hid (StrsOwn 0 Wc.heap.size w11a (.slice a5 F.length cap5) F) := FV.out.below hb11a
    have FH : Hid (StrsOwn 0 Wc.heap.size w11a (.slice a6 Ho.length cap6) Ho) := FH.out.below hb11a
    have FS : Hid (ShsAt Wc.heap.size w11a (.slice a7 Ss.length cap7) Ss) := FS.out.below hb11a
    have FSW : Hid (ShsW Wc.heap.size w6.heap.size w11a (.slice a7 Ss.length cap7) Ss.length) := FSW.out.below hb11a
    have FM : Hid (MdsAt w6.heap.size w11a (.slice am Ms.length capm) Ms) := FM.out.below hb11a
    have FMW : Hid (MdsW w6.heap.size wm.heap.size w11a (.slice am Ms.length capm) Ms.length) := FMW.out.below hb11a
    have FXV : Hid (StrsOwn wm.heap.size mid7 w11a (.slice a8 V.length cap8) V) := FXV.out.below hb11a
    have FXH : Hid (StrsOwn mid7 w7.heap.size w11a (.slice a9 Ho.length cap9) Ho) := FXH.out.below hb11a
    have FX : Hid (Box w11a w7.heap.size #[Value.string kind, .string nm, .string team, .slice a8 V.length cap8, .bool en, .slice a9 Ho.length cap9, .int .i64 ver]) := FX.out.on hb11a
    have FGV : Hid (StrsOwn W7.heap.size mid8 w11a (.slice a10 F.length cap10) F) := FGV.out.below hb11a
    have FGH : Hid (StrsOwn mid8 w8.heap.size w11a (.slice a11 Ho.length cap11) Ho) := FGH.out.below hb11a
    have FG : Hid (Box w11a w8.heap.size #[Value.string kind, .string nm, .string team, .slice a10 F.length cap10, .bool en, .slice a11 Ho.length cap11, .int .i64 ver]) := FG.out.on hb11a
    clear hb11a HS10
    clear FS
    go_wp2_with fail
    refine (toMdsO_any lm _ Ms _ (HMd.out.below FB.out) hMm.out).mono ?_
    rintro e w11b ⟨v11b, rfl, hb11b, hs11b, hw11b⟩
    have hz11b := hb11b.size
    have FB : Hid (Below w.heap.size w w11b) := FB.out.trans (hb11b.mono FB.out.size)
    have FA : Hid (Box w11b w.heap.size #[Value.string kind, .string nm, .string team, .slice a V.length cap, .bool en, .slice a' Ho.length cap', .int .i64 ver]) := FA.out.on hb11b
    have FW : Hid (Box w11b β #[Value.string kind, .string nm, .string team, .slice a5 F.length cap5, .bool en, .slice a6 Ho.length cap6, .int .i64 ver]) := FW.out.on hb11b
    have FV : Hid (StrsOwn 0 Wc.heap.size w11b (.slice a5 F.length cap5) F) := FV.out.below hb11b
    have FH : Hid (StrsOwn 0 Wc.heap.size w11b (.slice a6 Ho.length cap6) Ho) := FH.out.below hb11b
    have FSW : Hid (ShsW Wc.heap.size w6.heap.size w11b (.slice a7 Ss.length cap7) Ss.length) := FSW.out.below hb11b
    have FM : Hid (MdsAt w6.heap.size w11b (.slice am Ms.length capm) Ms) := FM.out.below hb11b
    have FMW : Hid (MdsW w6.heap.size wm.heap.size w11b (.slice am Ms.length capm) Ms.length) := FMW.out.below hb11b
    have FXV : Hid (StrsOwn wm.heap.size mid7 w11b (.slice a8 V.length cap8) V) := FXV.out.below hb11b
    have FXH : Hid (StrsOwn mid7 w7.heap.size w11b (.slice a9 Ho.length cap9) Ho) := FXH.out.below hb11b
    have FX : Hid (Box w11b w7.heap.size #[Value.string kind, .string nm, .string team, .slice a8 V.length cap8, .bool en, .slice a9 Ho.length cap9, .int .i64 ver]) := FX.out.on hb11b
    have FGV : Hid (StrsOwn W7.heap.size mid8 w11b (.slice a10 F.length cap10) F) := FGV.out.below hb11b
    have FGH : Hid (StrsOwn mid8 w8.heap.size w11b (.slice a11 Ho.length cap11) Ho) := FGH.out.below hb11b
    have FG : Hid (Box w11b w8.heap.size #[Value.string kind, .string nm, .string team, .slice a10 F.length cap10, .bool en, .slice a11 Ho.length cap11, .int .i64 ver]) := FG.out.on hb11b
    have HS11 := hide hs11b
    clear hb11b hs11b hw11b
    go_wp2_with fail
    refine (eqMds_same _ _ _ _ Ms _ FM.out HS11.out).mono ?_
    rintro e w11 ⟨rfl, hb11⟩
    have hz11 := hb11.size
    have FB : Hid (Below w.heap.size w w11) := FB.out.trans (hb11.mono FB.out.size)
    have FA : Hid (Box w11 w.heap.size #[Value.string kind, .string nm, .string team, .slice a V.length cap, .bool en, .slice a' Ho.length cap', .int .i64 ver]) := FA.out.on hb11
    have FW : Hid (Box w11 β #[Value.string kind, .string nm, .string team, .slice a5 F.length cap5, .bool en, .slice a6 Ho.length cap6, .int .i64 ver]) := FW.out.on hb11
    have FV : Hid (StrsOwn 0 Wc.heap.size w11 (.slice a5 F.length cap5) F) := FV.out.below hb11
    have FH : Hid (StrsOwn 0 Wc.heap.size w11 (.slice a6 Ho.length cap6) Ho) := FH.out.below hb11
    have FSW : Hid (ShsW Wc.heap.size w6.heap.size w11 (.slice a7 Ss.length cap7) Ss.length) := FSW.out.below hb11
    have FM : Hid (MdsAt w6.heap.size w11 (.slice am Ms.length capm) Ms) := FM.out.below hb11
    have FMW : Hid (MdsW w6.heap.size wm.heap.size w11 (.slice am Ms.length capm) Ms.length) := FMW.out.below hb11
    have FXV : Hid (StrsOwn wm.heap.size mid7 w11 (.slice a8 V.length cap8) V) := FXV.out.below hb11
    have FXH : Hid (StrsOwn mid7 w7.heap.size w11 (.slice a9 Ho.length cap9) Ho) := FXH.out.below hb11
    have FX : Hid (Box w11 w7.heap.size #[Value.string kind, .string nm, .string team, .slice a8 V.length cap8, .bool en, .slice a9 Ho.length cap9, .int .i64 ver]) := FX.out.on hb11
    have FGV : Hid (StrsOwn W7.heap.size mid8 w11 (.slice a10 F.length cap10) F) := FGV.out.below hb11
    have FGH : Hid (StrsOwn mid8 w8.heap.size w11 (.slice a11 Ho.length cap11) Ho) := FGH.out.below hb11
    have FG : Hid (Box w11 w8.heap.size #[Value.string kind, .string nm, .string team, .slice a10 F.length cap10, .bool en, .slice a11 Ho.length cap11, .int .i64 ver]) := FG.out.on hb11
    clear hb11 HS11
    clear FM
    go_wp2_with fail
    go_region_held3 (fun W => (∀ i, W.cell? ⟨w7.heap.size, i, none⟩ = (#[Value.string kind, .string nm, .string team, .slice a8 V.length cap8, .bool en, .slice a9 Ho.length cap9, .int .i64 ver] : Array Value)[i]?) ∧ (∀ i, W.cell? ⟨w.heap.size, i, none⟩ = (#[Value.string kind, .string nm, .string team, .slice a V.length cap, .bool en, .slice a' Ho.length cap', .int .i64 ver] : Array Value)[i]?) ∧ Hid (Below w11.heap.size w11 W ∧ w7.heap.size < w11.heap.size ∧ w.heap.size < w11.heap.size))
      (first
        | (with_reducible exact Held2.drew FX.out FA.out)
        | (with_reducible exact Held2.on (by assumption) (by assumption)))
      (first
        | (go_at_call 11
           have HD := hide (FB.out.drew)
           refine (toObjO_any _ _ _ _ _ _ _ V Ho _ (HV.out.below HD.out) (HH.out.below HD.out) HM.out.1 HM.out.2).mono ?_
           rintro e w12 ⟨v12, h12, rfl, hb12, mid12, hlo12, hmi12, ho7, ho8⟩
           obtain ⟨a12, cap12, rfl⟩ := ho7.form
           obtain ⟨a13, cap13, rfl⟩ := ho8.form
           have HV12 := hide ho7.at
           have HH12 := hide ho8.at
           clear ho7 ho8 hlo12 hmi12)
        | (go_at_call 13
           have HD : Hid (Below w11.heap.size w11 w12) := by with_reducible exact hide (drew_on hb12)
           refine (eqObj_same _ _ _ _ _ _ _ _ _ _ _ _ (FXV.out.below HD.out).at (FXH.out.below HD.out).at HV12.out HH12.out).mono ?_
           rintro e w13 ⟨rfl, hb13⟩
           have HD13 : Hid (Below w11.heap.size w11 w13) := bt HD.out hb13
           clear HD))
    have hb13' := HD13.out
    have hz13 := hb13'.size
    have FB : Hid (Below w.heap.size w w13) := FB.out.trans (hb13'.mono FB.out.size)
    have FA : Hid (Box w13 w.heap.size #[Value.string kind, .string nm, .string team, .slice a V.length cap, .bool en, .slice a' Ho.length cap', .int .i64 ver]) := FA.out.on hb13'
    have FW : Hid (Box w13 β #[Value.string kind, .string nm, .string team, .slice a5 F.length cap5, .bool en, .slice a6 Ho.length cap6, .int .i64 ver]) := FW.out.on hb13'
    have FV : Hid (StrsOwn 0 Wc.heap.size w13 (.slice a5 F.length cap5) F) := FV.out.below hb13'
    have FH : Hid (StrsOwn 0 Wc.heap.size w13 (.slice a6 Ho.length cap6) Ho) := FH.out.below hb13'
    have FSW : Hid (ShsW Wc.heap.size w6.heap.size w13 (.slice a7 Ss.length cap7) Ss.length) := FSW.out.below hb13'
    have FMW : Hid (MdsW w6.heap.size wm.heap.size w13 (.slice am Ms.length capm) Ms.length) := FMW.out.below hb13'
    have FXV : Hid (StrsOwn wm.heap.size mid7 w13 (.slice a8 V.length cap8) V) := FXV.out.below hb13'
    have FXH : Hid (StrsOwn mid7 w7.heap.size w13 (.slice a9 Ho.length cap9) Ho) := FXH.out.below hb13'
    have FX : Hid (Box w13 w7.heap.size #[Value.string kind, .string nm, .string team, .slice a8 V.length cap8, .bool en, .slice a9 Ho.length cap9, .int .i64 ver]) := FX.out.on hb13'
    have FGV : Hid (StrsOwn W7.heap.size mid8 w13 (.slice a10 F.length cap10) F) := FGV.out.below hb13'
    have FGH : Hid (StrsOwn mid8 w8.heap.size w13 (.slice a11 Ho.length cap11) Ho) := FGH.out.below hb13'
    have FG : Hid (Box w13 w8.heap.size #[Value.string kind, .string nm, .string team, .slice a10 F.length cap10, .bool en, .slice a11 Ho.length cap11, .int .i64 ver]) := FG.out.on hb13'
    clear hb13' hb13 HD13 hb12 HV12 HH12
    try clear HD
    have HNS : Hid (Ss.length ≤ 1048576) := hSm.out.1
    go_wp2_with fail
    refine (markShs_any _ _ _ Ss.length 1 _ FSW.out (by omega) HNS.out (by omega)).mono ?_
    rintro e w14 ⟨k0, rfl, hk1, hk2, hkept⟩
    have ht14 := hkept.touch
    have hz14 := ht14.size
    have FB : Hid (Below w.heap.size w w14) := FB.out.trans ((ht14.under (by omega)).mono (by omega))
    have FA : Hid (Box w14 w.heap.size #[Value.string kind, .string nm, .string team, .slice a V.length cap, .bool en, .slice a' Ho.length cap', .int .i64 ver]) := FA.out.touch ht14 (by omega)
    have FW : Hid (Box w14 β #[Value.string kind, .string nm, .string team, .slice a5 F.length cap5, .bool en, .slice a6 Ho.length cap6, .int .i64 ver]) := FW.out.touch ht14 (by omega)
    have FV : Hid (StrsOwn 0 Wc.heap.size w14 (.slice a5 F.length cap5) F) := FV.out.touch ht14 (by omega)
    have FH : Hid (StrsOwn 0 Wc.heap.size w14 (.slice a6 Ho.length cap6) Ho) := FH.out.touch ht14 (by omega)
    have FMW : Hid (MdsW w6.heap.size wm.heap.size w14 (.slice am Ms.length capm) Ms.length) := FMW.out.kept hkept
    have FXV : Hid (StrsOwn wm.heap.size mid7 w14 (.slice a8 V.length cap8) V) := FXV.out.touch ht14 (by omega)
    have FXH : Hid (StrsOwn mid7 w7.heap.size w14 (.slice a9 Ho.length cap9) Ho) := FXH.out.touch ht14 (by omega)
    have FX : Hid (Box w14 w7.heap.size #[Value.string kind, .string nm, .string team, .slice a8 V.length cap8, .bool en, .slice a9 Ho.length cap9, .int .i64 ver]) := FX.out.touch ht14 (by omega)
    have FGV : Hid (StrsOwn W7.heap.size mid8 w14 (.slice a10 F.length cap10) F) := FGV.out.touch ht14 (by omega)
    have FGH : Hid (StrsOwn mid8 w8.heap.size w14 (.slice a11 Ho.length cap11) Ho) := FGH.out.touch ht14 (by omega)
    have FG : Hid (Box w14 w8.heap.size #[Value.string kind, .string nm, .string team, .slice a10 F.length cap10, .bool en, .slice a11 Ho.length cap11, .int .i64 ver]) := FG.out.touch ht14 (by omega)
    clear FSW hkept ht14
    go_wp2_with fail
    refine (markMds_any _ _ _ Ms.length k0 _ FMW.out (by omega) hMm.out (by omega)).mono ?_
    rintro e w14b ⟨k1, rfl, hk3, hk4, hkept⟩
    have ht14 := hkept.touch
    have hz14b := ht14.size
    have FB : Hid (Below w.heap.size w w14b) := FB.out.trans ((ht14.under (by omega)).mono (by omega))
    have FA : Hid (Box w14b w.heap.size #[Value.string kind, .string nm, .string team, .slice a V.length cap, .bool en, .slice a' Ho.length cap', .int .i64 ver]) := FA.out.touch ht14 (by omega)
    have FW : Hid (Box w14b β #[Value.string kind, .string nm, .string team, .slice a5 F.length cap5, .bool en, .slice a6 Ho.length cap6, .int .i64 ver]) := FW.out.touch ht14 (by omega)
    have FV : Hid (StrsOwn 0 Wc.heap.size w14b (.slice a5 F.length cap5) F) := FV.out.touch ht14 (by omega)
    have FH : Hid (StrsOwn 0 Wc.heap.size w14b (.slice a6 Ho.length cap6) Ho) := FH.out.touch ht14 (by omega)
    have FXV : Hid (StrsOwn wm.heap.size mid7 w14b (.slice a8 V.length cap8) V) := FXV.out.touch ht14 (by omega)
    have FXH : Hid (StrsOwn mid7 w7.heap.size w14b (.slice a9 Ho.length cap9) Ho) := FXH.out.touch ht14 (by omega)
    have FX : Hid (Box w14b w7.heap.size #[Value.string kind, .string nm, .string team, .slice a8 V.length cap8, .bool en, .slice a9 Ho.length cap9, .int .i64 ver]) := FX.out.touch ht14 (by omega)
    have FGV : Hid (StrsOwn W7.heap.size mid8 w14b (.slice a10 F.length cap10) F) := FGV.out.touch ht14 (by omega)
    have FGH : Hid (StrsOwn mid8 w8.heap.size w14b (.slice a11 Ho.length cap11) Ho) := FGH.out.touch ht14 (by omega)
    have FG : Hid (Box w14b w8.heap.size #[Value.string kind, .string nm, .string team, .slice a10 F.length cap10, .bool en, .slice a11 Ho.length cap11, .int .i64 ver]) := FG.out.touch ht14 (by omega)
    clear FMW hkept ht14
    have g1 := FX.out.cell
    go_wp2_with fail
    refine (markObj_any _ _ _ _ _ _ _ V Ho _ wm.heap.size mid7 w7.heap.size k1 FXV.out FXH.out (by omega) (by have := HM.out; omega) hlo7 hmi7 (by omega)).mono ?_
    rintro e w15 ⟨rfl, ht15, hv15, hh15⟩
    have hz15 := ht15.size
    have FB : Hid (Below w.heap.size w w15) := FB.out.trans ((ht15.under (by omega)).mono (by omega))
    have FA : Hid (Box w15 w.heap.size #[Value.string kind, .string nm, .string team, .slice a V.length cap, .bool en, .slice a' Ho.length cap', .int .i64 ver]) := FA.out.touch ht15 (by omega)
    have FW : Hid (Box w15 β #[Value.string kind, .string nm, .string team, .slice a5 F.length cap5, .bool en, .slice a6 Ho.length cap6, .int .i64 ver]) := FW.out.touch ht15 (by omega)
    have FV : Hid (StrsOwn 0 Wc.heap.size w15 (.slice a5 F.length cap5) F) := FV.out.touch ht15 (by omega)
    have FH : Hid (StrsOwn 0 Wc.heap.size w15 (.slice a6 Ho.length cap6) Ho) := FH.out.touch ht15 (by omega)
    have FX : Hid (Box w15 w7.heap.size #[Value.string kind, .string nm, .string team, .slice a8 V.length cap8, .bool en, .slice a9 Ho.length cap9, .int .i64 ver]) := FX.out.touch ht15 (by omega)
    have FGV : Hid (StrsOwn W7.heap.size mid8 w15 (.slice a10 F.length cap10) F) := FGV.out.touch ht15 (by omega)
    have FGH : Hid (StrsOwn mid8 w8.heap.size w15 (.slice a11 Ho.length cap11) Ho) := FGH.out.touch ht15 (by omega)
    have FG : Hid (Box w15 w8.heap.size #[Value.string kind, .string nm, .string team, .slice a10 F.length cap10, .bool en, .slice a11 Ho.length cap11, .int .i64 ver]) := FG.out.touch ht15 (by omega)
    clear FXV FXH FX ht15 hv15 hh15 g1
    have g1 := FG.out.cell
    have g2 := FW.out.cell
    have hk5 : ¬ (k1 + (V.length : Int) + (Ho.length : Int) < 0) := by omega
    go_wp2_with fail
    clear hk5 g1 g2
    refine (eqObj_same _ _ _ _ _ _ _ _ _ _ _ _ FGV.out.at FGH.out.at FV.out.at FH.out.at).mono ?_
    rintro e w16 ⟨rfl, hb16⟩
    have hz16 := hb16.size
    have FB : Hid (Below w.heap.size w w16) := FB.out.trans (hb16.mono FB.out.size)
    have FA : Hid (Box w16 w.heap.size #[Value.string kind, .string nm, .string team, .slice a V.length cap, .bool en, .slice a' Ho.length cap', .int .i64 ver]) := FA.out.on hb16
    have FW : Hid (Box w16 β #[Value.string kind, .string nm, .string team, .slice a5 F.length cap5, .bool en, .slice a6 Ho.length cap6, .int .i64 ver]) := FW.out.on hb16
    have FV : Hid (StrsOwn 0 Wc.heap.size w16 (.slice a5 F.length cap5) F) := FV.out.below hb16
    have FH : Hid (StrsOwn 0 Wc.heap.size w16 (.slice a6 Ho.length cap6) Ho) := FH.out.below hb16
    have FGV : Hid (StrsOwn W7.heap.size mid8 w16 (.slice a10 F.length cap10) F) := FGV.out.below hb16
    have FGH : Hid (StrsOwn mid8 w8.heap.size w16 (.slice a11 Ho.length cap11) Ho) := FGH.out.below hb16
    have FG : Hid (Box w16 w8.heap.size #[Value.string kind, .string nm, .string team, .slice a10 F.length cap10, .bool en, .slice a11 Ho.length cap11, .int .i64 ver]) := FG.out.on hb16
    clear hb16
    have hk5 : ¬ (k1 + (V.length : Int) + (Ho.length : Int) < 0) := by omega
    have HG : Hid (F.length ≤ 1048576 ∧ Ho.length ≤ 1048576) := by have := HM.out; unfold Hid; rw [HFL.out]; exact this
    have g1 := FG.out.cell
    go_wp2_with fail
    refine (markObj_any _ _ _ _ _ _ _ F Ho _ W7.heap.size mid8 w8.heap.size 1 FGV.out FGH.out (by omega) (by have := HG.out; omega) hlo8 hmi8 (by omega)).mono ?_
    rintro e w17 ⟨rfl, ht17, hv17, hh17⟩
    have hz17 := ht17.size
    have FB : Hid (Below w.heap.size w w17) := FB.out.trans ((ht17.under (by omega)).mono (by omega))
    have FA : Hid (Box w17 w.heap.size #[Value.string kind, .string nm, .string team, .slice a V.length cap, .bool en, .slice a' Ho.length cap', .int .i64 ver]) := FA.out.touch ht17 (by omega)
    have FW : Hid (Box w17 β #[Value.string kind, .string nm, .string team, .slice a5 F.length cap5, .bool en, .slice a6 Ho.length cap6, .int .i64 ver]) := FW.out.touch ht17 (by omega)
    have FV : Hid (StrsOwn 0 Wc.heap.size w17 (.slice a5 F.length cap5) F) := FV.out.touch ht17 (by omega)
    have FH : Hid (StrsOwn 0 Wc.heap.size w17 (.slice a6 Ho.length cap6) Ho) := FH.out.touch ht17 (by omega)
    have FG : Hid (Box w17 w8.heap.size #[Value.string kind, .string nm, .string team, .slice a10 F.length cap10, .bool en, .slice a11 Ho.length cap11, .int .i64 ver]) := FG.out.touch ht17 (by omega)
    have FMV := hide hv17
    have FMH := hide hh17
    clear FGV FGH ht17 hv17 hh17 g1 hk5
    have g1 := FG.out.cell
    go_wp2_with fail
    refine (heldObj_any _ _ _ _ _ _ _ _ F.length Ho.length 1 FMV.out.at FMH.out.at (by omega) (by have := HG.out; omega)).mono ?_
    rintro e w18 ⟨rfl, hb18⟩
    have hz18 := hb18.size
    have FB : Hid (Below w.heap.size w w18) := FB.out.trans (hb18.mono FB.out.size)
    have FA : Hid (Box w18 w.heap.size #[Value.string kind, .string nm, .string team, .slice a V.length cap, .bool en, .slice a' Ho.length cap', .int .i64 ver]) := FA.out.on hb18
    have FW : Hid (Box w18 β #[Value.string kind, .string nm, .string team, .slice a5 F.length cap5, .bool en, .slice a6 Ho.length cap6, .int .i64 ver]) := FW.out.on hb18
    have FV : Hid (StrsOwn 0 Wc.heap.size w18 (.slice a5 F.length cap5) F) := FV.out.below hb18
    have FH : Hid (StrsOwn 0 Wc.heap.size w18 (.slice a6 Ho.length cap6) Ho) := FH.out.below hb18
    have FG : Hid (Box w18 w8.heap.size #[Value.string kind, .string nm, .string team, .slice a10 F.length cap10, .bool en, .slice a11 Ho.length cap11, .int .i64 ver]) := FG.out.on hb18
    have FMV : Hid (StrsOwn W7.heap.size mid8 w18 (.slice a10 F.length cap10) (marks 1 F.length)) := FMV.out.below hb18
    have FMH : Hid (StrsOwn mid8 w8.heap.size w18 (.slice a11 Ho.length cap11) (marks (1 + (F.length : Int)) Ho.length)) := FMH.out.below hb18
    clear hb18 g1
    have hk6 : ¬ (1 + (F.length : Int) + (Ho.length : Int) < 0) := by omega
    go_wp2_with fail
    go_cut [16] (fun p wc => ∃ β, p = .pointer (some ⟨β, 0, none⟩) ∧ w18.heap.size ≤ β ∧ AnsAt wc β kind nm team en ver F Ho ∧ Held w #[Value.string kind, .string nm, .string team, .slice a V.length cap, .bool en, .slice a' Ho.length cap', .int .i64 ver] wc ∧ Below w18.heap.size w18 wc)
    case first =>
      have hlt2 : w.heap.size < w18.heap.size := FA.out.lt
      go_region_held3 (fun W => (∀ i, W.cell? ⟨w.heap.size, i, none⟩ = (#[Value.string kind, .string nm, .string team, .slice a V.length cap, .bool en, .slice a' Ho.length cap', .int .i64 ver] : Array Value)[i]?) ∧ w.heap.size < W.heap.size ∧ Hid (Below w.heap.size w W ∧ ∀ i, W.frozen? ⟨w.heap.size, i, none⟩ = false))
        (first
          | (with_reducible exact Held.drew FA.out FB.out)
          | (with_reducible exact Held.drew (FA.out.on (one_al _ _)) (FB.out.alloc FB.out.size _))
          | (with_reducible exact Held.on (by assumption) (by assumption))
          | (with_reducible (refine Held.alloc ?_ _; assumption))
          | (with_reducible exact Held.swap (by assumption) hlt5 _)
          | (refine Held.set ?_ (by simp only []; omega) _
             refine Held.set ?_ (by simp only []; omega) _
             refine Held.set ?_ (by simp only []; omega) _
             refine Held.set ?_ (by simp only []; omega) _
             refine Held.set ?_ (by simp only []; omega) _
             refine Held.set ?_ (by simp only []; omega) _
             refine Held.set ?_ (by simp only []; omega) _
             with_reducible assumption))
        (first
          | (go_at_call 9
             refine (toShsO_any lo _ Ss _ (Held.shs (by assumption) HS.out) hSm.out).mono ?_
             rintro e w3 ⟨v3, rfl, hb3, hs3, hw3⟩
             have hlt3 : w.heap.size < w3.heap.size := (Held.on (w := w) (cs := #[Value.string kind, .string nm, .string team, .slice a V.length cap, .bool en, .slice a' Ho.length cap', .int .i64 ver]) (by assumption) hb3).2.1
             obtain ⟨a3, cap3, rfl⟩ := hs3.form
             have HS3 := hide hs3
             try (have HX : Hid (Box w3 w18.heap.size #[Value.string ⟨#[]⟩, .string ⟨#[]⟩, .string ⟨#[]⟩, .slice none 0 0, .bool false, .slice none 0 0, .int .i64 0]) := by with_reducible exact hide (Box.on (Box.drew (Box.new w18 _ 30 _ rfl)) hb3))
             first | (have HD3 : Hid (Below w18.heap.size w18 w3) := by with_reducible exact hide (drew_on hb3)) | (have HD3 : Hid (Below w18.heap.size w18 w3) := by with_reducible exact hide (al_drew_on hb3))
             clear hw3 hs3)
          | (go_at_call 10
             refine (toMdsO_any lm _ Ms _ (Held.mds (by assumption) HMd.out) hMm.out).mono ?_
             rintro e wm ⟨vm, rfl, hbm, hsm, hwm⟩
             have hltm : w.heap.size < wm.heap.size := (Held.on (w := w) (cs := #[Value.string kind, .string nm, .string team, .slice a V.length cap, .bool en, .slice a' Ho.length cap', .int .i64 ver]) (by assumption) hbm).2.1
             obtain ⟨am, capm, rfl⟩ := hsm.form
             have HMm := hide hsm
             have HSm : Hid (ShsAt _ wm _ Ss) := HS3.out.below (by first | exact hbm | exact below_al hbm)
             first | (have HXm : Hid (Box wm w3.heap.size #[Value.string ⟨#[]⟩, .string ⟨#[]⟩, .string ⟨#[]⟩, .slice none 0 0, .bool false, .slice none 0 0, .int .i64 0]) := by with_reducible exact hide (Box.on (Box.new w3 _ 30 _ rfl) hbm)) | (have HXm := hide (HX.out.on hbm)) | skip
             first | (have HDm : Hid (Below w18.heap.size w18 wm) := by with_reducible exact hide (bt HD3.out hbm)) | (have HDm : Hid (Below w18.heap.size w18 wm) := by with_reducible exact hide (bt HD3.out (below_al hbm)))
             clear hwm hsm HS3)
          | (go_at_call 11
             refine (toObjO_any _ _ _ _ _ _ _ V Ho _ (Held.strs (by assumption) HV.out) (Held.strs (by assumption) HH.out) HM.out.1 HM.out.2).mono ?_
             rintro e w4 ⟨v4, h4, rfl, hb4, mid4, hlo4, hhi4, hv4, hh4⟩
             have hlt4 : w.heap.size < w4.heap.size := (Held.on (w := w) (cs := #[Value.string kind, .string nm, .string team, .slice a V.length cap, .bool en, .slice a' Ho.length cap', .int .i64 ver]) (by assumption) hb4).2.1
             obtain ⟨a4, cap4, rfl⟩ := hv4.form
             obtain ⟨a4', cap4', rfl⟩ := hh4.form
             have HV4 := hide hv4.at
             have HH4 := hide hh4.at
             have HS4 : Hid (ShsAt _ w4 _ Ss) := HSm.out.below (by first | exact hb4 | exact below_al hb4)
             have HM4 : Hid (MdsAt _ w4 _ Ms) := HMm.out.below (by first | exact hb4 | exact below_al hb4)
             first | (have HX4 : Hid (Box w4 wm.heap.size #[Value.string ⟨#[]⟩, .string ⟨#[]⟩, .string ⟨#[]⟩, .slice none 0 0, .bool false, .slice none 0 0, .int .i64 0]) := by with_reducible exact hide (Box.on (Box.new wm _ 30 _ rfl) hb4)) | (have HX4 := hide (HXm.out.on hb4)) | skip
             first | (have HD4 : Hid (Below w18.heap.size w18 w4) := by with_reducible exact hide (bt HDm.out hb4)) | (have HD4 : Hid (Below w18.heap.size w18 w4) := by with_reducible exact hide (bt HDm.out (below_al hb4)))
             clear hv4 hh4 hlo4 hhi4 HSm HMm)
          | (go_at_call 12
             refine (implMendedF_any _ _ _ _ _ _ _ _ _ V Ho Ss Ms F _ _ _ (by first | exact HS4.out | exact HS4.out.below (one_al _ _)) (by first | exact HM4.out | exact HM4.out.below (one_al _ _)) (by first | exact HV4.out | exact HV4.out.below (one_al _ _)) (by first | exact HH4.out | exact HH4.out.below (one_al _ _)) HM.out.1 HM.out.2 HREL.out).mono ?_
             rintro e w5 ⟨v5, h5, rfl, hb5, mid5, hlo5, hhi5, hv5, hh5⟩
             obtain ⟨a5, cap5, rfl⟩ := hv5.form
             obtain ⟨a6, cap6, rfl⟩ := hh5.form
             have hlt5 : w.heap.size < w5.heap.size := (Held.on (w := w) (cs := #[Value.string kind, .string nm, .string team, .slice a V.length cap, .bool en, .slice a' Ho.length cap', .int .i64 ver]) (by assumption) hb5).2.1
             first | (have HD5 : Hid (Below w18.heap.size w18 w5) := by with_reducible exact hide (bt HD4.out hb5)) | (have HD5 : Hid (Below w18.heap.size w18 w5) := by with_reducible exact hide (bt HD4.out (below_al hb5)))
             have HV5 := hide hv5
             have HH5 := hide hh5
             have HL5 := hide hlo5
             have HI5 := hide hhi5
             first | (have HX5 : Hid (Box w5 w4.heap.size #[Value.string ⟨#[]⟩, .string ⟨#[]⟩, .string ⟨#[]⟩, .slice none 0 0, .bool false, .slice none 0 0, .int .i64 0]) := by with_reducible exact hide (Box.on (Box.new w4 _ 30 _ rfl) hb5)) | (have HX5 := hide (HX4.out.on hb5)) | skip
             try (have rr := HX5.out.cell
                  have rf := HX5.out.free
                  have rl := HX5.out.lt
                  have r0 : _ = some (Value.string ⟨#[]⟩) := rr 0
                  have r1 : _ = some (Value.string ⟨#[]⟩) := rr 1
                  have r2' : _ = some (Value.string ⟨#[]⟩) := rr 2
                  have r3 : _ = some (Value.slice none 0 0) := rr 3
                  have r4 : _ = some (Value.bool false) := rr 4
                  have r5 : _ = some (Value.slice none 0 0) := rr 5
                  have r6 : _ = some (Value.int .i64 0) := rr 6
                  clear rr)
             clear hv5 hh5 hlo5 hhi5))
      all_goals (go_wp2_with fail)
      all_goals go_meet
      · exact ⟨_, rfl, HD5.out.size, ans_new kind nm team en ver HV5.out HH5.out HI5.out, by with_reducible assumption, al_below HD5.out _⟩
      · exact ⟨_, rfl, HD4.out.size, ans_set kind nm team en ver HX5.out HV5.out HH5.out (by simp) HL5.out HI5.out, by with_reducible assumption, below_set7 HD5.out HD4.out.size⟩
      · exact ⟨_, rfl, HDm.out.size, ans_set kind nm team en ver HX5.out HV5.out HH5.out HX4.out.lt HL5.out HI5.out, by with_reducible assumption, below_set7 HD5.out HDm.out.size⟩
      · exact ⟨_, rfl, HD3.out.size, ans_set kind nm team en ver HX5.out HV5.out HH5.out HX4.out.lt HL5.out HI5.out, by with_reducible assumption, below_set7 HD5.out HD3.out.size⟩
      · exact ⟨_, rfl, Nat.le_refl _, ans_set kind nm team en ver HX5.out HV5.out HH5.out HX4.out.lt HL5.out HI5.out, by with_reducible assumption, below_set7 HD5.out (Nat.le_refl _)⟩
    case rest =>
      obtain ⟨β2, rfl, hβ2, ⟨b5, bcap5, b6, bcap6, hx2, ho5, ho6⟩, hheld, hbc⟩ := hcut
      have hz19 := hbc.size
      have HX2 := hide hx2
      have HO5 := hide ho5.at
      have HO6 := hide ho6.at
      have FB : Hid (Below w.heap.size w wc) := FB.out.trans (hbc.mono FB.out.size)
      have FA : Hid (Box wc w.heap.size #[Value.string kind, .string nm, .string team, .slice a V.length cap, .bool en, .slice a' Ho.length cap', .int .i64 ver]) := FA.out.on hbc
      have FW : Hid (Box wc β #[Value.string kind, .string nm, .string team, .slice a5 F.length cap5, .bool en, .slice a6 Ho.length cap6, .int .i64 ver]) := FW.out.on hbc
      have FV : Hid (StrsOwn 0 Wc.heap.size wc (.slice a5 F.length cap5) F) := FV.out.below hbc
      have FH : Hid (StrsOwn 0 Wc.heap.size wc (.slice a6 Ho.length cap6) Ho) := FH.out.below hbc
      have FG : Hid (Box wc w8.heap.size #[Value.string kind, .string nm, .string team, .slice a10 F.length cap10, .bool en, .slice a11 Ho.length cap11, .int .i64 ver]) := FG.out.on hbc
      have FMV : Hid (StrsOwn W7.heap.size mid8 wc (.slice a10 F.length cap10) (marks 1 F.length)) := FMV.out.below hbc
      have FMH : Hid (StrsOwn mid8 w8.heap.size wc (.slice a11 Ho.length cap11) (marks (1 + (F.length : Int)) Ho.length)) := FMH.out.below hbc
      clear hx2 ho5 ho6 hheld hbc
      have g1 := HX2.out.cell
      have g2 := FW.out.cell
      go_wp2_with fail
      refine (eqObj_same _ _ _ _ _ _ _ _ _ _ _ _ HO5.out HO6.out FV.out.at FH.out.at).mono ?_
      rintro e w20 ⟨rfl, hb20⟩
      have hz20 := hb20.size
      have FB : Hid (Below w.heap.size w w20) := FB.out.trans (hb20.mono FB.out.size)
      have FA : Hid (Box w20 w.heap.size #[Value.string kind, .string nm, .string team, .slice a V.length cap, .bool en, .slice a' Ho.length cap', .int .i64 ver]) := FA.out.on hb20
      have FW : Hid (Box w20 β #[Value.string kind, .string nm, .string team, .slice a5 F.length cap5, .bool en, .slice a6 Ho.length cap6, .int .i64 ver]) := FW.out.on hb20
      have FV : Hid (StrsOwn 0 Wc.heap.size w20 (.slice a5 F.length cap5) F) := FV.out.below hb20
      have FH : Hid (StrsOwn 0 Wc.heap.size w20 (.slice a6 Ho.length cap6) Ho) := FH.out.below hb20
      have FG : Hid (Box w20 w8.heap.size #[Value.string kind, .string nm, .string team, .slice a10 F.length cap10, .bool en, .slice a11 Ho.length cap11, .int .i64 ver]) := FG.out.on hb20
      have FMV : Hid (StrsOwn W7.heap.size mid8 w20 (.slice a10 F.length cap10) (marks 1 F.length)) := FMV.out.below hb20
      have FMH : Hid (StrsOwn mid8 w8.heap.size w20 (.slice a11 Ho.length cap11) (marks (1 + (F.length : Int)) Ho.length)) := FMH.out.below hb20
      clear hb20 g1 g2
      have g1 := FG.out.cell
      go_wp2_with fail
      refine (heldObj_any _ _ _ _ _ _ _ _ F.length Ho.length 1 FMV.out.at FMH.out.at (by omega) (by have := HG.out; omega)).mono ?_
      rintro e w21 ⟨rfl, hb21⟩
      have FB : Hid (Below w.heap.size w w21) := FB.out.trans (hb21.mono FB.out.size)
      have FA : Hid (Box w21 w.heap.size #[Value.string kind, .string nm, .string team, .slice a V.length cap, .bool en, .slice a' Ho.length cap', .int .i64 ver]) := FA.out.on hb21
      have FW : Hid (Box w21 β #[Value.string kind, .string nm, .string team, .slice a5 F.length cap5, .bool en, .slice a6 Ho.length cap6, .int .i64 ver]) := FW.out.on hb21
      have FV : Hid (StrsOwn 0 Wc.heap.size w21 (.slice a5 F.length cap5) F) := FV.out.below hb21
      have FH : Hid (StrsOwn 0 Wc.heap.size w21 (.slice a6 Ho.length cap6) Ho) := FH.out.below hb21
      have FG : Hid (Box w21 w8.heap.size #[Value.string kind, .string nm, .string team, .slice a10 F.length cap10, .bool en, .slice a11 Ho.length cap11, .int .i64 ver]) := FG.out.on hb21
      have FMV : Hid (StrsOwn W7.heap.size mid8 w21 (.slice a10 F.length cap10) (marks 1 F.length)) := FMV.out.below hb21
      have FMH : Hid (StrsOwn mid8 w8.heap.size w21 (.slice a11 Ho.length cap11) (marks (1 + (F.length : Int)) Ho.length)) := FMH.out.below hb21
      clear hb21 g1
      go_wp2
      go_ret
      exact ⟨rfl, FB.out⟩
end
end Go.Proofs.YtlgakpnjicdblabGreat
