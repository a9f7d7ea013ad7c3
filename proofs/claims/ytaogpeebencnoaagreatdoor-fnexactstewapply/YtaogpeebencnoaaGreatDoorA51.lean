import Derived.Test.YtaogpeebencnoaaGreatDoorA50
import Derived.Deep.RegionHeld3
namespace Go.Proofs.YtaogpeebencnoaaGreatDoor
open Go.RowKit Go.Deep

set_option maxRecDepth 20000 in
set_option maxHeartbeats 16000000 in
theorem law_apply (sv cv bv ev : Value) (B : Sb) (A : Ac) (w : World) (hL : SbAt 0 w sv cv bv B) (hB : AcAt 0 w ev A) (hg : Laid w) :
    Calls Tryz.prog 3 #[.agg #[.int .i64 B.now, sv, cv, bv], .agg #[.string A.sv, .int .i64 A.sn, .int .i64 A.cr, .int .i64 A.wa, .int .i64 A.cl, .bool A.sc, ev, .bool A.dp]] w fun e w' => e = .returned (.bool true) ∧ Below w.heap.size w w' := by
  have HL := hide hL
  have HK := hide hB
  have HG := hide hg
  obtain ⟨a0, k0, rfl⟩ := hL.svs.form
  obtain ⟨a1, k1, rfl⟩ := hL.cps.form
  obtain ⟨a2, k2, rfl⟩ := hL.bes.form
  obtain ⟨ea, ec, rfl⟩ := hB.ens.form
  clear hL hB hg
  go_enter Tryz.func3, Tryz.ntmps3
  go_wp2_with fail
  generalize hWa : (World.alloc (w.alloc _) _) = Wa
  have HBa : Hid (Below w.heap.size w Wa) := by rw [← hWa]; exact (one_al w _).alloc (by simp) _
  have FA : Hid (Box Wa w.heap.size (#[Value.int .i64 B.now, .slice a0 B.ss.length k0, .slice a1 B.cs.length k1, .slice a2 B.bs.length k2])) := by rw [← hWa]; exact (Box.new _ _ _ _ rfl).on (one_al _ _)
  have FB : Hid (Box Wa (w.heap.size + 1) (#[Value.string A.sv, .int .i64 A.sn, .int .i64 A.cr, .int .i64 A.wa, .int .i64 A.cl, .bool A.sc, .slice ea A.es.length ec, .bool A.dp])) := by rw [← hWa]; exact Box.new _ _ _ _ (by simp)
  clear hWa
  refine (szSb_any 0 _ _ _ B _ _ (by omega) (by omega) (HL.out.below HBa.out)).mono ?_
  rintro e w1 ⟨q, rfl, hb1, hr0, hr1, hr2⟩
  have HB1 : Hid (Below w.heap.size w w1) := bt HBa.out hb1
  replace FA := hide (FA.out.on hb1)
  replace FB := hide (FB.out.on hb1)
  have HQ := hide hr2
  clear hb1 hr2 HBa
  by_cases hneg : q < 0
  · go_wp2
    go_ret
    exact ⟨rfl, HB1.out⟩
  have hBm : Hid (SbSmall B) := HQ.out (by omega)
  clear HQ hr0
  have g1 := FB.out.cell
  have gm := FB.out.lt
  go_wp2_with fail
  clear g1 gm
  refine (szAc_any 0 _ A _ _ (by omega) (by omega) (HK.out.below HB1.out)).mono ?_
  rintro e w2 ⟨q2, rfl, hb2, hr0, hr2, hr3⟩
  have HB : Hid (Below w.heap.size w w2) := bt HB1.out hb2
  replace FA := hide (FA.out.on hb2)
  replace FB := hide (FB.out.on hb2)
  have HQ := hide hr3
  clear hb2 hr3 HB1
  by_cases hneg2 : q2 < 0
  · go_wp2
    go_ret
    exact ⟨rfl, HB.out⟩
  have hAm : Hid (AcSmall A) := HQ.out (by omega)
  clear HQ hr0 hr1 hr2 hneg
  obtain ⟨Bq, c, hAN, hSM⟩ : ∃ (Bq : Sb) (c : Int), applyA B A = (Bq, c) ∧ SbSmall Bq := ⟨_, _, rfl, applyA_small A hBm.out⟩
  have HAN := hide hAN
  have HSM := hide hSM
  clear hAN hSM
  go_wp2
  clear hneg2
  go_cut [6, 7] (fun p q wc => ∃ β, p = .pointer (some ⟨β, 0, none⟩) ∧ q = .int .i64 c ∧ w2.heap.size ≤ β ∧ AnsS wc β Bq ∧ Below w2.heap.size w2 wc)
  case first =>
    have hltA : w.heap.size < w2.heap.size := FA.out.lt
    have HLr := hide (HL.out.below HB.out)
    have HKr := hide (HK.out.below HB.out)
    go_region_held3 (Held2 w2 w.heap.size (#[Value.int .i64 B.now, .slice a0 B.ss.length k0, .slice a1 B.cs.length k1, .slice a2 B.bs.length k2]) (w.heap.size + 1) (#[Value.string A.sv, .int .i64 A.sn, .int .i64 A.cr, .int .i64 A.wa, .int .i64 A.cl, .bool A.sc, .slice ea A.es.length ec, .bool A.dp]))
      (first
        | (with_reducible exact Held2.drew FA.out FB.out)
        | (with_reducible exact Held2.aldrew FA.out FB.out _)
        | (with_reducible exact Held2.on (by assumption) (by assumption))
        | (with_reducible (refine Held2.alloc ?_ _; assumption))
        | (with_reducible exact Held2.swap (by assumption) HD5.out _)
        | (refine Held2.set ?_ (by simp only []; omega) _
           refine Held2.set ?_ (by simp only []; omega) _
           refine Held2.set ?_ (by simp only []; omega) _
           refine Held2.set ?_ (by simp only []; omega) _
           with_reducible assumption))
      (first
        | (go_at_call 7
           refine (toSb_any 0 _ _ _ B _ (by first | exact HLr.out.below ((Below.refl _ _).drew) | exact HLr.out.below ((one_al _ _).drew)) hBm.out).mono ?_
           rintro e w3 ⟨x0, y0, x1, y1, x2, y2, rfl, hb3, hs3⟩
           try (have HX : Hid (Box w3 w2.heap.size #[Value.int .i64 0, .slice none 0 0, .slice none 0 0, .slice none 0 0]) := by with_reducible exact hide (Box.on (Box.drew (Box.new w2 _ 36 _ rfl)) hb3))
           first | (have HD3 : Hid (Below w2.heap.size w2 w3) := by with_reducible exact hide (drew_on2 hb3)) | (have HD3 : Hid (Below w2.heap.size w2 w3) := by with_reducible exact hide (al_drew_on2 hb3))
           have HS3 := hide (hs3.mono (Nat.zero_le _))
           have hz3 : w2.heap.size ≤ w3.heap.size := HD3.out.size
           clear hs3)
        | (go_at_call 8
           refine (toAcO_any 0 _ A _ (by first | exact HKr.out.below HD3.out | exact HKr.out.below (bt HD3.out (one_al _ _))) hAm.out).mono ?_
           rintro e w4 ⟨z0, t0, rfl, hb4, hs4⟩
           first | (have HX4 : Hid (Box w4 w3.heap.size #[Value.int .i64 0, .slice none 0 0, .slice none 0 0, .slice none 0 0]) := by with_reducible exact hide (Box.on (Box.new w3 _ 36 _ rfl) hb4)) | (have HX4 := hide (HX.out.on hb4)) | skip
           first | (have HD4 : Hid (Below w2.heap.size w2 w4) := by with_reducible exact hide (bt HD3.out hb4)) | (have HD4 : Hid (Below w2.heap.size w2 w4) := by with_reducible exact hide (bt HD3.out (al_on2 hb4)))
           have HS4 : Hid (SbAt 0 w4 _ _ _ B) := HS3.out.below (by first | exact hb4 | exact al_on2 hb4)
           have HK4 := hide (hs4.at.mono (Nat.zero_le _))
           have hz4 : w2.heap.size ≤ w4.heap.size := HD4.out.size
           clear hs4 HS3)
        | (go_at_call 6
           refine (specApply_any _ _ _ _ B A _ (by first | exact HS4.out | exact HS4.out.below (one_al _ _)) (by first | exact HK4.out | exact HK4.out.below (one_al _ _)) hBm.out hAm.out).mono ?_
           intro e w5 hans
           rw [HAN.out] at hans
           obtain ⟨b0, m0, b1, m1, b2, m2, rfl, hb5, ho5⟩ := hans
           first | (have HX5 : Hid (Box w5 w4.heap.size #[Value.int .i64 0, .slice none 0 0, .slice none 0 0, .slice none 0 0]) := by with_reducible exact hide (Box.on (Box.new w4 _ 36 _ rfl) hb5)) | (have HX5 := hide (HX4.out.on hb5)) | skip
           first | (have HD5 : Hid (Below w2.heap.size w2 w5) := by with_reducible exact hide (bt HD4.out hb5)) | (have HD5 : Hid (Below w2.heap.size w2 w5) := by with_reducible exact hide (bt HD4.out (al_on2 hb5)))
           have HO5 := hide ho5
           try (have rr := HX5.out.cell
                have rf := HX5.out.free
                have rl := HX5.out.lt
                have r0 : _ = some (Value.int .i64 0) := rr 0
                have r1 : _ = some (Value.slice none 0 0) := rr 1
                have r2 : _ = some (Value.slice none 0 0) := rr 2
                have r3 : _ = some (Value.slice none 0 0) := rr 3
                clear rr)
           clear ho5))
    all_goals (go_wp2_with fail)
    all_goals go_meet
    · exact ⟨_, rfl, rfl, HD5.out.size, AnsS.new HO5.out _, HD5.out.alloc HD5.out.size _⟩
    · exact ⟨_, rfl, rfl, HD4.out.size, AnsS.set HX5.out HO5.out (by simp), below_sets4 HD5.out HD4.out.size _ _ _ _⟩
    · exact ⟨_, rfl, rfl, HD3.out.size, AnsS.set HX5.out HO5.out HX4.out.lt, below_sets4 HD5.out HD3.out.size _ _ _ _⟩
    · exact ⟨_, rfl, rfl, Nat.le_refl _, AnsS.set HX5.out HO5.out HX4.out.lt, below_sets4 HD5.out (Nat.le_refl _) _ _ _ _⟩
  case rest =>
  revert wc
  intro Wc hcut
  obtain ⟨β, rfl, rfl, hβ, ⟨b0, m0, b1, m1, b2, m2, hx5, ho5⟩, hbc⟩ := hcut
  have hzβ := hx5.lt
  have hzw : w.heap.size + 1 < w2.heap.size := FB.out.lt
  have hzc := hbc.size
  have FC : Hid (Below Wc.heap.size Wc Wc) := Below.refl _ _
  have HW0 := hide ho5
  have FO := hide ho5
  have FW := hide hx5
  replace FA := hide (FA.out.on hbc)
  replace FB := hide (FB.out.on hbc)
  replace HB := hide (bt HB.out hbc)
  clear hx5 ho5 hbc
  have g1 := FA.out.cell
  go_wp2_with fail
  clear g1
  refine (toSbO_any 0 _ _ _ B _ (HL.out.below HB.out) hBm.out).mono ?_
  rintro e w6 ⟨c0, d0, c1, d1, c2, d2, rfl, hb6, ho6⟩
  have hz6 := hb6.size
  replace FC := hide (FC.out.trans (hb6.mono FC.out.size))
  replace FA := hide (FA.out.on hb6)
  replace FB := hide (FB.out.on hb6)
  replace FW := hide (FW.out.on hb6)
  replace HB := hide (HB.out.trans (hb6.mono HB.out.size))
  replace FO := hide (FO.out.below hb6)
  have OX := hide ho6
  clear hb6 ho6
  have g0 := FB.out.cell
  have gl := FB.out.lt
  have g1 : ∀ o i, (w6.alloc o).cell? ⟨w.heap.size + 1, i, none⟩ = _ := fun o i => (cell_alloc_lt _ _ _ _ gl).trans (g0 i)
  go_wp2_with fail
  clear g0 gl g1
  generalize hWn : w6.alloc _ = W6
  have hbn : Below w6.heap.size w6 W6 := by rw [← hWn]; exact one_al _ _
  have FX : Hid (Box W6 w6.heap.size (#[Value.int .i64 B.now, .slice c0 B.ss.length d0, .slice c1 B.cs.length d1, .slice c2 B.bs.length d2])) := by rw [← hWn]; exact Box.new _ _ _ _ rfl
  have hzW6 : W6.heap.size = w6.heap.size + 1 := by rw [← hWn]; simp
  replace FC := hide (FC.out.trans (hbn.mono FC.out.size))
  replace FA := hide (FA.out.on hbn)
  replace FB := hide (FB.out.on hbn)
  replace FW := hide (FW.out.on hbn)
  replace HB := hide (HB.out.trans (hbn.mono HB.out.size))
  replace FO := hide (FO.out.below hbn)
  replace OX := hide (OX.out.below hbn)
  clear hbn hWn
  refine (toAcO_any 0 _ A _ (HK.out.below HB.out) hAm.out).mono ?_
  rintro e w7 ⟨xa, ya, rfl, hb7, ho7⟩
  have hz7 := hb7.size
  replace FC := hide (FC.out.trans (hb7.mono FC.out.size))
  replace FA := hide (FA.out.on hb7)
  replace FB := hide (FB.out.on hb7)
  replace FW := hide (FW.out.on hb7)
  replace HB := hide (HB.out.trans (hb7.mono HB.out.size))
  replace FO := hide (FO.out.below hb7)
  replace OX := hide (OX.out.below hb7)
  replace FX := hide (FX.out.on hb7)
  have OY := hide ho7
  clear hb7 ho7
  have g0 := FX.out.cell
  have gl := FX.out.lt
  have g1 : ∀ o i, (w7.alloc o).cell? ⟨w6.heap.size, i, none⟩ = _ := fun o i => (cell_alloc_lt _ _ _ _ gl).trans (g0 i)
  go_wp2_with fail
  clear g0 gl g1
  generalize hWn : w7.alloc _ = W7
  have hbn : Below w7.heap.size w7 W7 := by rw [← hWn]; exact one_al _ _
  have FY : Hid (Box W7 w7.heap.size (#[Value.string A.sv, .int .i64 A.sn, .int .i64 A.cr, .int .i64 A.wa, .int .i64 A.cl, .bool A.sc, .slice xa A.es.length ya, .bool A.dp])) := by rw [← hWn]; exact Box.new _ _ _ _ rfl
  have hzW7 : W7.heap.size = w7.heap.size + 1 := by rw [← hWn]; simp
  replace FC := hide (FC.out.trans (hbn.mono FC.out.size))
  replace FA := hide (FA.out.on hbn)
  replace FB := hide (FB.out.on hbn)
  replace FW := hide (FW.out.on hbn)
  replace HB := hide (HB.out.trans (hbn.mono HB.out.size))
  replace FO := hide (FO.out.below hbn)
  replace OX := hide (OX.out.below hbn)
  replace FX := hide (FX.out.on hbn)
  replace OY := hide (OY.out.below hbn)
  clear hbn hWn
  refine (implApply_any _ _ _ _ B A _ (OX.out.at.mono (Nat.zero_le _)) (OY.out.at.mono (Nat.zero_le _)) hBm.out hAm.out (HG.out.on HB.out)).mono ?_
  intro e w8 hans
  rw [HAN.out] at hans
  obtain ⟨z0, t0, z1, t1, z2, t2, rfl, hb8, ho8⟩ := hans
  have hz8 := hb8.size
  replace FC := hide (FC.out.trans (hb8.mono FC.out.size))
  replace FA := hide (FA.out.on hb8)
  replace FB := hide (FB.out.on hb8)
  replace FW := hide (FW.out.on hb8)
  replace HB := hide (HB.out.trans (hb8.mono HB.out.size))
  replace FO := hide (FO.out.below hb8)
  replace OX := hide (OX.out.below hb8)
  replace FX := hide (FX.out.on hb8)
  replace OY := hide (OY.out.below hb8)
  replace FY := hide (FY.out.on hb8)
  have OG := hide ho8
  clear hb8 ho8
  have g0 := FW.out.cell
  have gl := FW.out.lt
  have g1 : ∀ o i, (w8.alloc o).cell? ⟨β, i, none⟩ = _ := fun o i => (cell_alloc_lt _ _ _ _ gl).trans (g0 i)
  go_wp2_with fail
  clear g0 gl g1
  generalize hWn : w8.alloc _ = W8
  have hbn : Below w8.heap.size w8 W8 := by rw [← hWn]; exact one_al _ _
  have FG : Hid (Box W8 w8.heap.size (#[Value.int .i64 Bq.now, .slice z0 Bq.ss.length t0, .slice z1 Bq.cs.length t1, .slice z2 Bq.bs.length t2])) := by rw [← hWn]; exact Box.new _ _ _ _ rfl
  have hzW8 : W8.heap.size = w8.heap.size + 1 := by rw [← hWn]; simp
  replace FC := hide (FC.out.trans (hbn.mono FC.out.size))
  replace FA := hide (FA.out.on hbn)
  replace FB := hide (FB.out.on hbn)
  replace FW := hide (FW.out.on hbn)
  replace HB := hide (HB.out.trans (hbn.mono HB.out.size))
  replace FO := hide (FO.out.below hbn)
  replace OX := hide (OX.out.below hbn)
  replace FX := hide (FX.out.on hbn)
  replace OY := hide (OY.out.below hbn)
  replace FY := hide (FY.out.on hbn)
  replace OG := hide (OG.out.below hbn)
  clear hbn hWn
  refine (eqSb_same _ _ _ _ Bq _ _ _ _ _ OG.out.at FO.out).mono ?_
  rintro e w9 ⟨rfl, hbe⟩
  have hzw9 := hbe.size
  replace FC := hide (FC.out.trans (hbe.mono FC.out.size))
  replace FA := hide (FA.out.on hbe)
  replace FB := hide (FB.out.on hbe)
  replace FW := hide (FW.out.on hbe)
  replace HB := hide (HB.out.trans (hbe.mono HB.out.size))
  replace FO := hide (FO.out.below hbe)
  replace OX := hide (OX.out.below hbe)
  replace FX := hide (FX.out.on hbe)
  replace OY := hide (OY.out.below hbe)
  replace FY := hide (FY.out.on hbe)
  replace OG := hide (OG.out.below hbe)
  replace FG := hide (FG.out.on hbe)
  clear hbe
  go_wp2_with fail
  have HLb := hide (HL.out.below HB.out)
  go_region_held3 (Held2 w9 w6.heap.size (#[Value.int .i64 B.now, .slice c0 B.ss.length d0, .slice c1 B.cs.length d1, .slice c2 B.bs.length d2]) w.heap.size (#[Value.int .i64 B.now, .slice a0 B.ss.length k0, .slice a1 B.cs.length k1, .slice a2 B.bs.length k2]))
    (first
      | (with_reducible exact Held2.drew FX.out FA.out)
      | (with_reducible exact Held2.on (by assumption) (by assumption)))
    (first
      | (go_at_call 7
         refine (toSb_any 0 _ _ _ B _ (HLb.out.below ((Below.refl _ _).drew)) hBm.out).mono ?_
         rintro e we ⟨f0, j0, f1, j1, f2, j2, rfl, hbe, hse⟩
         have HC8 : Hid (Below w9.heap.size w9 we) := bt ((Below.refl _ _).drew) hbe
         have HSe := hide hse
         clear hse)
      | (go_at_call 10
         refine (eqSb_same _ _ _ _ B _ _ _ _ _ (OX.out.below HC8.out).at HSe.out).mono ?_
         rintro e w10 ⟨rfl, hbf⟩
         have HC9 : Hid (Below w9.heap.size w9 w10) := bt HC8.out hbf))
  have hb10 := HC9.out
  have hz10 := hb10.size
  replace FC := hide (FC.out.trans (hb10.mono FC.out.size))
  replace FA := hide (FA.out.on hb10)
  replace FB := hide (FB.out.on hb10)
  replace FW := hide (FW.out.on hb10)
  replace HB := hide (HB.out.trans (hb10.mono HB.out.size))
  replace FO := hide (FO.out.below hb10)
  replace OX := hide (OX.out.below hb10)
  replace FX := hide (FX.out.on hb10)
  replace OY := hide (OY.out.below hb10)
  replace FY := hide (FY.out.on hb10)
  replace OG := hide (OG.out.below hb10)
  replace FG := hide (FG.out.on hb10)
  clear hb10 HC9 HC8 HSe HLb hbe hbf
  go_wp2_with fail
  have HKb := hide (HK.out.below HB.out)
  go_region_held3 (Held2 w10 w7.heap.size (#[Value.string A.sv, .int .i64 A.sn, .int .i64 A.cr, .int .i64 A.wa, .int .i64 A.cl, .bool A.sc, .slice xa A.es.length ya, .bool A.dp]) (w.heap.size + 1) (#[Value.string A.sv, .int .i64 A.sn, .int .i64 A.cr, .int .i64 A.wa, .int .i64 A.cl, .bool A.sc, .slice ea A.es.length ec, .bool A.dp]))
    (first
      | (with_reducible exact Held2.drew FY.out FB.out)
      | (with_reducible exact Held2.on (by assumption) (by assumption)))
    (first
      | (go_at_call 8
         refine (toAcO_any 0 _ A _ (HKb.out.below ((Below.refl _ _).drew)) hAm.out).mono ?_
         rintro e we ⟨f0, j0, rfl, hbe, hse⟩
         have HC8 : Hid (Below w10.heap.size w10 we) := bt ((Below.refl _ _).drew) hbe
         have HSe := hide hse.at
         clear hse)
      | (go_at_call 11
         refine (eqAc_same _ _ A _ _ _ (OY.out.below HC8.out).at HSe.out).mono ?_
         rintro e w11 ⟨rfl, hbf⟩
         have HC9 : Hid (Below w10.heap.size w10 w11) := bt HC8.out hbf))
  have hb11 := HC9.out
  have hz11 := hb11.size
  replace FC := hide (FC.out.trans (hb11.mono FC.out.size))
  replace FA := hide (FA.out.on hb11)
  replace FB := hide (FB.out.on hb11)
  replace FW := hide (FW.out.on hb11)
  replace HB := hide (HB.out.trans (hb11.mono HB.out.size))
  replace FO := hide (FO.out.below hb11)
  replace OX := hide (OX.out.below hb11)
  replace FX := hide (FX.out.on hb11)
  replace OY := hide (OY.out.below hb11)
  replace FY := hide (FY.out.on hb11)
  replace OG := hide (OG.out.below hb11)
  replace FG := hide (FG.out.on hb11)
  clear hb11 HC9 HC8 HSe HKb hbe hbf
  have g1 := FX.out.cell
  go_wp2_with fail
  clear g1
  refine (markSb_any _ _ _ _ _ B _ 1 OX.out hBm.out (by omega) (by omega) (by omega)).mono ?_
  rintro e w12 ⟨rfl, ht12, hm12⟩
  have hz12 := ht12.size
  replace FC := hide (FC.out.trans ((ht12.under (by omega)).mono (by omega)))
  replace FA := hide (FA.out.touch ht12 (by omega))
  replace FB := hide (FB.out.touch ht12 (by omega))
  replace FW := hide (FW.out.touch ht12 (by omega))
  replace HB := hide (HB.out.trans ((ht12.under (by omega)).mono (by omega)))
  replace FO := hide (HW0.out.below FC.out)
  replace FX := hide (FX.out.touch ht12 (by omega))
  replace OY := hide (OY.out.touch ht12 (by omega))
  replace FY := hide (FY.out.touch ht12 (by omega))
  replace OG := hide (OG.out.touch ht12 (by omega))
  replace FG := hide (FG.out.touch ht12 (by omega))
  clear OX FX ht12 hm12
  have hke := endSb_bd (k := 1) hBm.out (by omega)
  generalize endSb 1 B = K1 at hke ⊢
  have g1 := FY.out.cell
  go_wp2_with fail
  clear g1
  refine (markAc_any _ _ A _ _ K1 OY.out hAm.out (by omega) (by omega) (by omega)).mono ?_
  rintro e w13 ⟨rfl, ht13⟩
  have hz13 := ht13.size
  replace FC := hide (FC.out.trans ((ht13.under (by omega)).mono (by omega)))
  replace FA := hide (FA.out.touch ht13 (by omega))
  replace FB := hide (FB.out.touch ht13 (by omega))
  replace FW := hide (FW.out.touch ht13 (by omega))
  replace HB := hide (HB.out.trans ((ht13.under (by omega)).mono (by omega)))
  replace FO := hide (HW0.out.below FC.out)
  replace FY := hide (FY.out.touch ht13 (by omega))
  replace OG := hide (OG.out.touch ht13 (by omega))
  replace FG := hide (FG.out.touch ht13 (by omega))
  clear OY FY ht13
  have hke2 : ¬ (K1 + (posEn A.es A.es.length : Int) < 0) := by omega
  generalize K1 + (posEn A.es A.es.length : Int) = K3 at hke2 ⊢
  have g1 := FG.out.cell
  have g2 := FW.out.cell
  go_wp2_with fail
  clear g1 g2
  refine (eqSb_same _ _ _ _ Bq _ _ _ _ _ OG.out.at FO.out).mono ?_
  rintro e w14 ⟨rfl, hbe⟩
  have hzw14 := hbe.size
  replace FC := hide (FC.out.trans (hbe.mono FC.out.size))
  replace FA := hide (FA.out.on hbe)
  replace FB := hide (FB.out.on hbe)
  replace FW := hide (FW.out.on hbe)
  replace HB := hide (HB.out.trans (hbe.mono HB.out.size))
  replace FO := hide (FO.out.below hbe)
  replace OG := hide (OG.out.below hbe)
  replace FG := hide (FG.out.on hbe)
  clear hbe
  have g1 := FG.out.cell
  go_wp2_with fail
  clear g1 hke hke2
  refine (markSb_any _ _ _ _ _ Bq _ 1 OG.out HSM.out (by omega) (by omega) (by omega)).mono ?_
  rintro e w15 ⟨rfl, ht15, hm15⟩
  have hz15 := ht15.size
  replace FC := hide (FC.out.trans ((ht15.under (by omega)).mono (by omega)))
  replace FA := hide (FA.out.touch ht15 (by omega))
  replace FB := hide (FB.out.touch ht15 (by omega))
  replace FW := hide (FW.out.touch ht15 (by omega))
  replace HB := hide (HB.out.trans ((ht15.under (by omega)).mono (by omega)))
  replace FO := hide (HW0.out.below FC.out)
  replace FG := hide (FG.out.touch ht15 (by omega))
  have OM := hide hm15
  clear OG ht15 hm15
  have hke : ¬ (endSb 1 Bq < 0) := by have := endSb_bd (k := 1) HSM.out (by omega); omega
  have g1 := FG.out.cell
  generalize hK2 : endSb 1 Bq = K2 at hke ⊢
  have HK2 := hide hK2
  clear hK2
  go_wp2_with fail
  clear g1
  refine (heldSb_any _ _ _ _ _ Bq _ 1 OM.out HSM.out (by omega) (by omega)).mono ?_
  rintro e w16 ⟨rfl, hb16⟩
  have hz16 := hb16.size
  replace FC := hide (FC.out.trans (hb16.mono FC.out.size))
  replace FA := hide (FA.out.on hb16)
  replace FB := hide (FB.out.on hb16)
  replace FW := hide (FW.out.on hb16)
  replace HB := hide (HB.out.trans (hb16.mono HB.out.size))
  replace FO := hide (FO.out.below hb16)
  replace FG := hide (FG.out.on hb16)
  replace OM := hide (OM.out.below hb16)
  clear hb16
  rw [HK2.out]
  go_wp2_with fail
  go_cut [15, 16] (fun p q wc => ∃ β, p = .pointer (some ⟨β, 0, none⟩) ∧ q = .int .i64 c ∧ w16.heap.size ≤ β ∧ AnsS wc β Bq ∧ Below w16.heap.size w16 wc)
  case first =>
    have hltA : w.heap.size < w16.heap.size := FA.out.lt
    have HLr := hide (HL.out.below HB.out)
    have HKr := hide (HK.out.below HB.out)
    go_region_held3 (Held2 w16 w.heap.size (#[Value.int .i64 B.now, .slice a0 B.ss.length k0, .slice a1 B.cs.length k1, .slice a2 B.bs.length k2]) (w.heap.size + 1) (#[Value.string A.sv, .int .i64 A.sn, .int .i64 A.cr, .int .i64 A.wa, .int .i64 A.cl, .bool A.sc, .slice ea A.es.length ec, .bool A.dp]))
      (first
        | (with_reducible exact Held2.drew FA.out FB.out)
        | (with_reducible exact Held2.aldrew FA.out FB.out _)
        | (with_reducible exact Held2.on (by assumption) (by assumption))
        | (with_reducible (refine Held2.alloc ?_ _; assumption))
        | (with_reducible exact Held2.swap (by assumption) HD5.out _)
        | (refine Held2.set ?_ (by simp only []; omega) _
           refine Held2.set ?_ (by simp only []; omega) _
           refine Held2.set ?_ (by simp only []; omega) _
           refine Held2.set ?_ (by simp only []; omega) _
           with_reducible assumption))
      (first
        | (go_at_call 7
           refine (toSb_any 0 _ _ _ B _ (by first | exact HLr.out.below ((Below.refl _ _).drew) | exact HLr.out.below ((one_al _ _).drew)) hBm.out).mono ?_
           rintro e w3 ⟨x0, y0, x1, y1, x2, y2, rfl, hb3, hs3⟩
           try (have HX : Hid (Box w3 w16.heap.size #[Value.int .i64 0, .slice none 0 0, .slice none 0 0, .slice none 0 0]) := by with_reducible exact hide (Box.on (Box.drew (Box.new w16 _ 36 _ rfl)) hb3))
           first | (have HD3 : Hid (Below w16.heap.size w16 w3) := by with_reducible exact hide (drew_on2 hb3)) | (have HD3 : Hid (Below w16.heap.size w16 w3) := by with_reducible exact hide (al_drew_on2 hb3))
           have HS3 := hide (hs3.mono (Nat.zero_le _))
           have hz3 : w16.heap.size ≤ w3.heap.size := HD3.out.size
           clear hs3)
        | (go_at_call 8
           refine (toAcO_any 0 _ A _ (by first | exact HKr.out.below HD3.out | exact HKr.out.below (bt HD3.out (one_al _ _))) hAm.out).mono ?_
           rintro e w4 ⟨z0, t0, rfl, hb4, hs4⟩
           first | (have HX4 : Hid (Box w4 w3.heap.size #[Value.int .i64 0, .slice none 0 0, .slice none 0 0, .slice none 0 0]) := by with_reducible exact hide (Box.on (Box.new w3 _ 36 _ rfl) hb4)) | (have HX4 := hide (HX.out.on hb4)) | skip
           first | (have HD4 : Hid (Below w16.heap.size w16 w4) := by with_reducible exact hide (bt HD3.out hb4)) | (have HD4 : Hid (Below w16.heap.size w16 w4) := by with_reducible exact hide (bt HD3.out (al_on2 hb4)))
           have HS4 : Hid (SbAt 0 w4 _ _ _ B) := HS3.out.below (by first | exact hb4 | exact al_on2 hb4)
           have HK4 := hide (hs4.at.mono (Nat.zero_le _))
           have hz4 : w16.heap.size ≤ w4.heap.size := HD4.out.size
           clear hs4 HS3)
        | (go_at_call 9
           refine (implApply_any _ _ _ _ B A _ (by first | exact HS4.out | exact HS4.out.below (one_al _ _)) (by first | exact HK4.out | exact HK4.out.below (one_al _ _)) hBm.out hAm.out (by first | exact (HG.out.on HB.out).on HD4.out | exact ((HG.out.on HB.out).on HD4.out).on (one_al _ _))).mono ?_
           intro e w5 hans
           rw [HAN.out] at hans
           obtain ⟨b0, m0, b1, m1, b2, m2, rfl, hb5, ho5⟩ := hans
           first | (have HX5 : Hid (Box w5 w4.heap.size #[Value.int .i64 0, .slice none 0 0, .slice none 0 0, .slice none 0 0]) := by with_reducible exact hide (Box.on (Box.new w4 _ 36 _ rfl) hb5)) | (have HX5 := hide (HX4.out.on hb5)) | skip
           first | (have HD5 : Hid (Below w16.heap.size w16 w5) := by with_reducible exact hide (bt HD4.out hb5)) | (have HD5 : Hid (Below w16.heap.size w16 w5) := by with_reducible exact hide (bt HD4.out (al_on2 hb5)))
           have HO5 := hide ho5
           try (have rr := HX5.out.cell
                have rf := HX5.out.free
                have rl := HX5.out.lt
                have r0 : _ = some (Value.int .i64 0) := rr 0
                have r1 : _ = some (Value.slice none 0 0) := rr 1
                have r2 : _ = some (Value.slice none 0 0) := rr 2
                have r3 : _ = some (Value.slice none 0 0) := rr 3
                clear rr)
           clear ho5))
    all_goals (go_wp2_with fail)
    all_goals go_meet
    · exact ⟨_, rfl, rfl, HD5.out.size, AnsS.new HO5.out _, HD5.out.alloc HD5.out.size _⟩
    · exact ⟨_, rfl, rfl, HD4.out.size, AnsS.set HX5.out HO5.out (by simp), below_sets4 HD5.out HD4.out.size _ _ _ _⟩
    · exact ⟨_, rfl, rfl, HD3.out.size, AnsS.set HX5.out HO5.out HX4.out.lt, below_sets4 HD5.out HD3.out.size _ _ _ _⟩
    · exact ⟨_, rfl, rfl, Nat.le_refl _, AnsS.set HX5.out HO5.out HX4.out.lt, below_sets4 HD5.out (Nat.le_refl _) _ _ _ _⟩
  case rest =>
  obtain ⟨β2, rfl, rfl, hβ2, ⟨n0, o0, n1, o1, n2, o2, hx2, ho2⟩, hbc⟩ := hcut
  have hz17 := hbc.size
  have HX2 := hide hx2
  have HO2 := hide ho2
  replace FC := hide (FC.out.trans (hbc.mono FC.out.size))
  replace FA := hide (FA.out.on hbc)
  replace FB := hide (FB.out.on hbc)
  replace FW := hide (FW.out.on hbc)
  replace HB := hide (HB.out.trans (hbc.mono HB.out.size))
  replace FO := hide (FO.out.below hbc)
  replace FG := hide (FG.out.on hbc)
  replace OM := hide (OM.out.below hbc)
  clear hx2 ho2 hbc
  have g1 := HX2.out.cell
  have g2 := FW.out.cell
  go_wp2_with fail
  clear g1 g2
  refine (eqSb_same _ _ _ _ Bq _ _ _ _ _ HO2.out FO.out).mono ?_
  rintro e w18 ⟨rfl, hbe⟩
  have hzw18 := hbe.size
  replace FC := hide (FC.out.trans (hbe.mono FC.out.size))
  replace FA := hide (FA.out.on hbe)
  replace FB := hide (FB.out.on hbe)
  replace FW := hide (FW.out.on hbe)
  replace HB := hide (HB.out.trans (hbe.mono HB.out.size))
  replace FO := hide (FO.out.below hbe)
  replace FG := hide (FG.out.on hbe)
  replace OM := hide (OM.out.below hbe)
  clear hbe
  have g1 := FG.out.cell
  go_wp2_with fail
  clear g1
  refine (heldSb_any _ _ _ _ _ Bq _ 1 OM.out HSM.out (by omega) (by omega)).mono ?_
  rintro e w19 ⟨rfl, hb19⟩
  replace FC := hide (FC.out.trans (hb19.mono FC.out.size))
  replace FA := hide (FA.out.on hb19)
  replace FB := hide (FB.out.on hb19)
  replace FW := hide (FW.out.on hb19)
  replace HB := hide (HB.out.trans (hb19.mono HB.out.size))
  replace FO := hide (FO.out.below hb19)
  replace FG := hide (FG.out.on hb19)
  replace OM := hide (OM.out.below hb19)
  clear hb19
  rw [HK2.out]
  go_wp2
  go_ret
  exact ⟨rfl, HB.out⟩
end Go.Proofs.YtaogpeebencnoaaGreatDoor
