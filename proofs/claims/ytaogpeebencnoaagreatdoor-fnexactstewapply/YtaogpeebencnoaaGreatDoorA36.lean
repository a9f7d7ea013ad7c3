import Derived.Test.YtaogpeebencnoaaGreatDoorA35
namespace Go.Proofs.YtaogpeebencnoaaGreatDoor
open Go.RowKit Go.Deep

set_option maxRecDepth 20000 in
set_option maxHeartbeats 16000000 in
theorem applyEnds_any {lo : Nat} {w W3 w3 W4 : World} {sb so k0 k1 k2 : Nat} {a1 a2 ea : Option Addr} {ec m0 m1 m2 : Nat} {b0 b1 b2 : Option Addr} {K : Nat} {B : Sb} {A : Ac} {x : Sv} {v5 v7 v8 v11 v12 v13 v14 v15 v16 v17 : Value} {u18 u19 u20 u21 u22 u23 u24 u25 u26 u27 u28 u29 u30 u31 u32 u33 u34 u35 u36 u37 u38 u39 u40 u41 u42 u43 u44 u45 u46 u47 u48 u49 u50 u51 u52 u53 u54 u55 u56 u57 u58 u59 u60 u61 u62 u63 u64 u65 u66 u67 u68 u69 u70 u71 u72 u73 u74 u75 u76 u77 u78 u79 u80 u81 u82 u83 u84 u85 u86 u87 u88 u89 u90 u91 u92 u93 u94 u95 u96 u97 u98 u99 u100 u101 u102 u103 u104 u105 u106 u107 u108 u109 u110 u111 u112 u113 u114 u115 u116 u117 u118 u119 u120 u121 u122 u123 u124 u125 u126 u127 u128 u129 u130 u131 u132 u133 u134 u135 u136 u137 u138 u139 u140 u141 u142 u143 u144 u145 u146 u147 u148 u149 u150 u151 u152 u153 u154 u155 u156 u157 u158 u159 u160 u161 u162 u163 u164 u165 u166 u167 u168 u169 u170 u171 u172 u173 u174 u175 u176 u177 u178 u179 u180 u181 u182 u183 u184 u185 u186 u187 u188 u189 u190 u191 u192 u193 u194 u195 u196 u197 u198 u199 u200 u201 u202 u203 u204 u205 u206 u207 u208 u209 u210 u211 u212 u213 u214 u215 u216 u217 u218 u219 u220 u221 u222 u223 u224 u225 u226 u227 u228 u229 u230 u231 u232 u233 u234 u235 u236 u237 u238 u239 u240 u241 u242 u243 u244 u245 u246 u247 u248 u249 u250 u251 u252 u253 u254 u255 u256 u257 u258 u259 u260 u261 u262 u263 u264 u265 u266 u267 u268 u269 u270 u271 u272 u273 u274 u275 u276 u277 u278 u279 u280 u281 u282 u283 u284 u285 u286 u287 u288 u289 u290 u291 u292 u293 u294 u295 u296 u297 u298 u299 u300 u301 u302 : Value}
    (HK : Hid (SbAt lo w (.slice (some ⟨sb, so, none⟩) B.ss.length k0) (.slice a1 B.cs.length k1) (.slice a2 B.bs.length k2) B)) (HV : Hid (validB B = true)) (HF : Hid (svF B.ss A.sv = some x)) (HKK : Hid (K = svI B.ss A.sv)) {hI : svI B.ss A.sv < B.ss.length} (HSX : Hid (x = B.ss[svI B.ss A.sv])) (hi : K < B.ss.length) (HQ0 : Hid (actB A = true)) (HA : Hid (AcAt lo w (.slice ea A.es.length ec) A)) (HE4 : Hid (appF B A = appI B A x))
    (HB : Hid (Below w.heap.size w W4)) (FP : Hid (Box W4 w.heap.size #[.int .i64 B.now, .slice (some ⟨sb, so, none⟩) B.ss.length k0, .slice a1 B.cs.length k1, .slice a2 B.bs.length k2])) (FQ : Hid (Box W4 (w.heap.size + 1) #[.string A.sv, .int .i64 A.sn, .int .i64 A.cr, .int .i64 A.wa, .int .i64 A.cl, .bool A.sc, .slice ea A.es.length ec, .bool A.dp])) (FR : Hid (Box W4 (w.heap.size + 1 + 1) #[.int .i64 0, .slice none 0 0, .slice none 0 0, .slice none 0 0])) (FX : Hid (Box W4 w3.heap.size #[.int .i64 B.now, .slice b0 B.ss.length m0, .slice b1 B.cs.length m1, .slice b2 B.bs.length m2])) (OW : Hid (SbOwn W3.heap.size w3.heap.size W4 (.slice b0 B.ss.length m0) (.slice b1 B.cs.length m1) (.slice b2 B.bs.length m2) B)) (hfr : w.heap.size + 1 + 1 < W3.heap.size) (hz3 : W3.heap.size ≤ w3.heap.size) :
    Code.wp Tryz.prog (nthC 9 (Tryz.f20.body.getD .ret)) (bodyPost Tryz.prog Tryz.f20 fun e w' => SbRes w e w' (appF B A).1 (appF B A).2) { tmps := #[.agg #[.int .i64 B.now, .slice (some ⟨sb, so, none⟩) B.ss.length k0, .slice a1 B.cs.length k1, .slice a2 B.bs.length k2], .agg #[.string A.sv, .int .i64 A.sn, .int .i64 A.cr, .int .i64 A.wa, .int .i64 A.cl, .bool A.sc, .slice ea A.es.length ec, .bool A.dp], .pointer (some ⟨w.heap.size, 0, none⟩), .pointer (some ⟨w.heap.size + 1, 0, none⟩), .pointer (some ⟨w.heap.size + 1 + 1, 0, none⟩), v5, .int .i64 K, v7, v8, .pointer (some ⟨w3.heap.size, 0, none⟩), .int .i64 (B.now + 1), v11, v12, v13, v14, v15, v16, v17, u18, u19, u20, u21, u22, u23, u24, u25, u26, u27, u28, u29, u30, u31, u32, u33, u34, u35, u36, u37, u38, u39, u40, u41, u42, u43, u44, u45, u46, u47, u48, u49, u50, u51, u52, u53, u54, u55, u56, u57, u58, u59, u60, u61, u62, u63, u64, u65, u66, u67, u68, u69, u70, u71, u72, u73, u74, u75, u76, u77, u78, u79, u80, u81, u82, u83, u84, u85, u86, u87, u88, u89, u90, u91, u92, u93, u94, u95, u96, u97, u98, u99, u100, u101, u102, u103, u104, u105, u106, u107, u108, u109, u110, u111, u112, u113, u114, u115, u116, u117, u118, u119, u120, u121, u122, u123, u124, u125, u126, u127, u128, u129, u130, u131, u132, u133, u134, u135, u136, u137, u138, u139, u140, u141, u142, u143, u144, u145, u146, u147, u148, u149, u150, u151, u152, u153, u154, u155, u156, u157, u158, u159, u160, u161, u162, u163, u164, u165, u166, u167, u168, u169, u170, u171, u172, u173, u174, u175, u176, u177, u178, u179, u180, u181, u182, u183, u184, u185, u186, u187, u188, u189, u190, u191, u192, u193, u194, u195, u196, u197, u198, u199, u200, u201, u202, u203, u204, u205, u206, u207, u208, u209, u210, u211, u212, u213, u214, u215, u216, u217, u218, u219, u220, u221, u222, u223, u224, u225, u226, u227, u228, u229, u230, u231, u232, u233, u234, u235, u236, u237, u238, u239, u240, u241, u242, u243, u244, u245, u246, u247, u248, u249, u250, u251, u252, u253, u254, u255, u256, u257, u258, u259, u260, u261, u262, u263, u264, u265, u266, u267, u268, u269, u270, u271, u272, u273, u274, u275, u276, u277, u278, u279, u280, u281, u282, u283, u284, u285, u286, u287, u288, u289, u290, u291, u292, u293, u294, u295, u296, u297, u298, u299, u300, u301, u302], defers := [] } W4 := by
  have hem := HA.out.ens.max
  unfold maxLen at hem
  generalize hQQ : bodyPost Tryz.prog Tryz.f20 _ = QQ
  have HQQ := hide hQQ
  clear hQQ
  simp only [nthC, Tryz.f20, Option.getD_some]
  go_step
  go_cut [11, 12] from 18 (fun _ _ wx => ∃ X : Sb, Below w.heap.size w wx ∧ Box wx w.heap.size #[.int .i64 B.now, .slice (some ⟨sb, so, none⟩) B.ss.length k0, .slice a1 B.cs.length k1, .slice a2 B.bs.length k2] ∧ Box wx (w.heap.size + 1) #[.string A.sv, .int .i64 A.sn, .int .i64 A.cr, .int .i64 A.wa, .int .i64 A.cl, .bool A.sc, .slice ea A.es.length ec, .bool A.dp] ∧ Box wx (w.heap.size + 1 + 1) #[.int .i64 0, .slice none 0 0, .slice none 0 0, .slice none 0 0] ∧ Box wx w3.heap.size #[.int .i64 B.now, .slice b0 B.ss.length m0, .slice b1 B.cs.length m1, .slice b2 B.bs.length m2] ∧ SbOwn W3.heap.size w3.heap.size wx (.slice b0 B.ss.length m0) (.slice b1 B.cs.length m1) (.slice b2 B.bs.length m2) X ∧ EndOk B X ∧ endsF (B.now + 1) A.sv A.es B = some X)
  case first =>
    go_wp2
    go_loopw [11] (fun i wr => ∃ (j : Nat) (X : Sb), i = .int .i64 j ∧ j ≤ A.es.length ∧ Below w.heap.size w wr ∧ Box wr w.heap.size #[.int .i64 B.now, .slice (some ⟨sb, so, none⟩) B.ss.length k0, .slice a1 B.cs.length k1, .slice a2 B.bs.length k2] ∧ Box wr (w.heap.size + 1) #[.string A.sv, .int .i64 A.sn, .int .i64 A.cr, .int .i64 A.wa, .int .i64 A.cl, .bool A.sc, .slice ea A.es.length ec, .bool A.dp] ∧ Box wr (w.heap.size + 1 + 1) #[.int .i64 0, .slice none 0 0, .slice none 0 0, .slice none 0 0] ∧ Box wr w3.heap.size #[.int .i64 B.now, .slice b0 B.ss.length m0, .slice b1 B.cs.length m1, .slice b2 B.bs.length m2] ∧ SbOwn W3.heap.size w3.heap.size wr (.slice b0 B.ss.length m0) (.slice b1 B.cs.length m1) (.slice b2 B.bs.length m2) X ∧ EndOk B X ∧ endsF (B.now + 1) A.sv A.es B = endsF (B.now + 1) A.sv (A.es.drop j) X) (fun i _ => A.es.length - (intOf i).toNat)
    case atStart => exact ⟨0, B, rfl, by omega, HB.out, FP.out, FQ.out, FR.out, FX.out, OW.out, ⟨rfl, rfl, rfl, rfl, MayOk.of HV.out⟩, by rw [List.drop_zero]⟩
    case round =>
      obtain ⟨j, X, rfl, hj, hb, hp, hq, hr, hx, ho, hek, hee⟩ := hrel
      replace HB := hide hb
      replace FP := hide hp
      replace FQ := hide hq
      replace FR := hide hr
      replace FX := hide hx
      replace OW := hide ho
      have HEK := hide hek
      have HEE := hide hee
      clear hb hp hq hr hx ho hek hee
      by_cases hlt : j < A.es.length
      · obtain ⟨eb, eo, rfl, hew, -, hec⟩ := HA.out.ens.full' (by omega)
        have HEC := hide ((hec j hlt).2.below HB.out hew)
        have q6 := FQ.out.cell 6
        simp at q6
        clear hec
        go_wp2
        clear q6
        go_cut [110] from 93 to 132 (fun c wc => c = .bool (!mayT X A.sv A.es[j].nu) ∧ Below wr.heap.size wr wc)
        case first =>
          have xn : Nonempty (In (Up wr)) := ⟨⟨wr, Below.refl _ _⟩⟩
          have xs := fun (X : In (Up wr)) => in_self X
          have z0 : ∀ X : In (Up wr), X.w.cell? ⟨w3.heap.size, 0, none⟩ = some (.int .i64 B.now) := fun X => Up.cell X (by rw [FX.out.cell 0]; rfl)
          have z1 : ∀ X : In (Up wr), X.w.cell? ⟨w3.heap.size, 1, none⟩ = some (.slice b0 B.ss.length m0) := fun X => Up.cell X (by rw [FX.out.cell 1]; rfl)
          have z2 : ∀ X : In (Up wr), X.w.cell? ⟨w3.heap.size, 2, none⟩ = some (.slice b1 B.cs.length m1) := fun X => Up.cell X (by rw [FX.out.cell 2]; rfl)
          have z3 : ∀ X : In (Up wr), X.w.cell? ⟨w3.heap.size, 3, none⟩ = some (.slice b2 B.bs.length m2) := fun X => Up.cell X (by rw [FX.out.cell 3]; rfl)
          have y0 : ∀ X : In (Up wr), X.w.cell? ⟨w.heap.size + 1, 0, none⟩ = some (.string A.sv) := fun X => Up.cell X (by rw [FQ.out.cell 0]; rfl)
          have y6 : ∀ X : In (Up wr), X.w.cell? ⟨w.heap.size + 1, 6, none⟩ = some (.slice (some ⟨eb, eo, none⟩) A.es.length ec) := fun X => Up.cell X (by rw [FQ.out.cell 6]; rfl)
          have e0 : ∀ X : In (Up wr), _ := fun X => Up.cell X HEC.out.c0
          have i0 : (0 : Int) ≤ (j : Int) := by omega
          have i1 : (j : Int) < (A.es.length : Int) := by omega
          refine wp_region_class (Up wr) (by kernel_rfl) (by kernel_rfl) ((Below.refl _ _).drew) ?_
          repeat (go_big_quiet_step ((go_at_call 52; rename_i Y; exact (mayN_any _ _ _ _ X A.sv A.es[j].nu B.now _ HEK.out.now (OW.out.at.below Y.h) HEK.out.may).mono fun _ _ h => ⟨h.1, Up.next Y h.2⟩)))
          refine wpQuiet_nil ?_
          intro wn hw
          obtain ⟨Y, hY⟩ := hw
          have HWN : Below wr.heap.size wr wn := by rw [hY]; exact Y.h
          clear hY Y z0 z1 z2 z3 y0 y6 e0 xs xn
          go_wp2
          go_meet
          exact ⟨rfl, HWN⟩
        case rest =>
        obtain ⟨rfl, hbc⟩ := hcut
        have HBS := hide HB.out.size
        replace HB := hide (bt HB.out hbc)
        replace FP := hide (FP.out.on hbc)
        replace FQ := hide (FQ.out.on hbc)
        replace FR := hide (FR.out.on hbc)
        replace FX := hide (FX.out.on hbc)
        replace OW := hide (OW.out.below hbc)
        replace HEC := hide (HEC.out.below hbc (Nat.lt_of_lt_of_le hew HBS.out))
        obtain ⟨W5, hW5⟩ : ∃ W, W = wc := ⟨_, rfl⟩
        subst hW5
        clear hbc
        cases hmy : mayT X A.sv A.es[j].nu with
        | false =>
          have HE : Hid (appF B A = (B, 5)) := by unfold Hid; rw [HE4.out]; unfold appI; rw [HEE.out, endsF_step hlt, hmy]; rfl
          have r0 := FR.out.cell
          have g0 := FR.out.free
          have p := FP.out.cell
          go_wp2
          rw [← HQQ.out]
          refine bodyPost_ret (v := .tuple #[.agg #[.int .i64 B.now, .slice (some ⟨sb, so, none⟩) B.ss.length k0, .slice a1 B.cs.length k1, .slice a2 B.bs.length k2], .int .i64 5]) (by simp [results, Tryz.results20, go_sem, r0]) rfl ?_
          rw [HE.out]
          have hbb := below_sets4 HB.out (show w.heap.size ≤ w.heap.size + 1 + 1 by omega) (.int .i64 B.now) (.slice (some ⟨sb, so, none⟩) B.ss.length k0) (.slice a1 B.cs.length k1) (.slice a2 B.bs.length k2)
          exact ⟨_, _, _, _, _, _, rfl, hbb, (HK.out.below hbb).mono (Nat.zero_le _)⟩
        | true =>
          obtain ⟨ci, hci, hcr, hcf, hcix⟩ := cpR_some (may_some hmy)
          obtain ⟨xb, xo, rfl, hxb, -, hxc⟩ := OW.out.at.cps.full' (by omega)
          have HCR := hide hcr
          have HST : Hid (endsF (B.now + 1) A.sv A.es B = endsF (B.now + 1) A.sv (A.es.drop (j + 1)) { X with cs := X.cs.modify ci (endC (B.now + 1)) }) := by
            unfold Hid
            rw [HEE.out, endsF_step hlt, hmy]
            unfold endX
            rw [hcix]
            rfl
          have HBL := hide (SbOwn.cblk (cap := m1) (by rw [HEK.out.len]; exact OW.out) (by omega))
          clear hcr hcf hcix hmy
          go_wp2
          go_cut [12] from 93 to 132 (fun c wc => c = .int .i64 ci ∧ Below W5.heap.size W5 wc)
          case first =>
            have xn : Nonempty (In (Up W5)) := ⟨⟨W5, Below.refl _ _⟩⟩
            have xs := fun (X : In (Up W5)) => in_self X
            have z0 : ∀ X : In (Up W5), X.w.cell? ⟨w3.heap.size, 0, none⟩ = some (.int .i64 B.now) := fun X => Up.cell X (by rw [FX.out.cell 0]; rfl)
            have z1 : ∀ X : In (Up W5), X.w.cell? ⟨w3.heap.size, 1, none⟩ = some (.slice b0 B.ss.length m0) := fun X => Up.cell X (by rw [FX.out.cell 1]; rfl)
            have z2 : ∀ X : In (Up W5), X.w.cell? ⟨w3.heap.size, 2, none⟩ = some (.slice (some ⟨xb, xo, none⟩) B.cs.length m1) := fun X => Up.cell X (by rw [FX.out.cell 2]; rfl)
            have z3 : ∀ X : In (Up W5), X.w.cell? ⟨w3.heap.size, 3, none⟩ = some (.slice b2 B.bs.length m2) := fun X => Up.cell X (by rw [FX.out.cell 3]; rfl)
            have y0 : ∀ X : In (Up W5), X.w.cell? ⟨w.heap.size + 1, 0, none⟩ = some (.string A.sv) := fun X => Up.cell X (by rw [FQ.out.cell 0]; rfl)
            have y6 : ∀ X : In (Up W5), X.w.cell? ⟨w.heap.size + 1, 6, none⟩ = some (.slice (some ⟨eb, eo, none⟩) A.es.length ec) := fun X => Up.cell X (by rw [FQ.out.cell 6]; rfl)
            have e0 : ∀ X : In (Up W5), _ := fun X => Up.cell X HEC.out.c0
            have i0 : (0 : Int) ≤ (j : Int) := by omega
            have i1 : (j : Int) < (A.es.length : Int) := by omega
            refine wp_region_class (Up W5) (by kernel_rfl) (by kernel_rfl) ((Below.refl _ _).drew) ?_
            repeat (go_big_quiet_step ((go_at_call 51; rename_i Y; exact (copyN_any _ _ _ _ X A.sv A.es[j].nu B.now _ HEK.out.now (OW.out.at.below Y.h)).mono fun _ _ h => ⟨h.1.trans (by rw [HCR.out]), Up.next Y h.2⟩)))
            refine wpQuiet_nil ?_
            intro wn hw
            obtain ⟨Y, hY⟩ := hw
            have HWN : Below W5.heap.size W5 wn := by rw [hY]; exact Y.h
            clear hY Y z0 z1 z2 z3 y0 y6 e0 xs xn
            go_wp2
            go_meet
            exact ⟨rfl, HWN⟩
          case rest =>
          revert wc
          intro W6 hcut
          obtain ⟨rfl, hbc⟩ := hcut
          replace HB := hide (bt HB.out hbc)
          replace FP := hide (FP.out.on hbc)
          replace FQ := hide (FQ.out.on hbc)
          replace FR := hide (FR.out.on hbc)
          replace FX := hide (FX.out.on hbc)
          replace OW := hide (OW.out.below hbc)
          have hCC := ((hxc ci hci).2.below hbc hxb)
          have hlenX : X.cs.length = B.cs.length := HEK.out.len
          have hbl := HBL.out
          have OW2 : SbOwn W3.heap.size w3.heap.size W6 (.slice b0 B.ss.length m0) (.slice (some ⟨xb, xo, none⟩) X.cs.length m1) (.slice b2 B.bs.length m2) X := by rw [hlenX]; exact OW.out
          have hfz := fun i => OW2.cfrz (by omega) i
          obtain ⟨OE, TE⟩ := OW2.ended hci (B.now + 1)
          have z2 := FX.out.cell 2
          simp at z2
          have d5 := hCC.c5
          have d2 := hCC.c2
          have z2b : ∀ i u, (W6.setCell ⟨xb, i, none⟩ u).cell? ⟨w3.heap.size, 2, none⟩ = some (.slice (some ⟨xb, xo, none⟩) B.cs.length m1) := fun i u => (cell_setCell_ne _ _ _ _ (show w3.heap.size ≠ xb by omega)).trans z2
          have d2b : ∀ u, (W6.setCell ⟨xb, xo + ci * 7 + 5, none⟩ u).cell? ⟨xb, xo + ci * 7 + 2, none⟩ = some (.int .i64 X.cs[ci].ve) := fun u => (cell_set_ne0 _ _ _ _ _ (by omega)).trans d2
          have hfz2 : ∀ i p u, (W6.setCell p u).frozen? ⟨xb, i, none⟩ = false := fun i p u => by rw [World.frozen?_setCell]; exact hfz i
          have i0 : (0 : Int) ≤ (ci : Int) := by omega
          have i1 : (ci : Int) < (B.cs.length : Int) := by omega
          rw [hlenX] at OE
          have HOE := hide OE
          have HTE := hide TE
          have hz6 := hbc.size
          have HSZ := hide (show W3.heap.size ≤ W6.heap.size by have := FX.out.lt; omega)
          clear hxc hCC OW2 OE TE hbc HBL
          go_wp2
          clear z2 d5 d2 z2b d2b hfz hfz2
          generalize (W6.setCell ⟨xb, xo + ci * 7 + 5, none⟩ (.bool true)).setCell ⟨xb, xo + ci * 7 + 2, none⟩ (.int .i64 (B.now + 1)) = W7 at *
          go_roundw
          case rel => exact ⟨j + 1, _, by go_num, by omega, HB.out.trans ((HTE.out.under HSZ.out).mono (by omega)), FP.out.touch HTE.out (by omega), FQ.out.touch HTE.out (by omega), FR.out.touch HTE.out (by omega), FX.out.touch HTE.out (by omega), HOE.out, HEK.out.ended ci (B.now + 1), HST.out⟩
          case measure => simp [intOf]; omega
      · have HFI : Hid (endsF (B.now + 1) A.sv A.es B = some X) := by
          unfold Hid
          rw [HEE.out, List.drop_of_length_le (by omega), endsF]
        have q6 := FQ.out.cell 6
        simp at q6
        go_wp2
        go_meet
        exact ⟨X, HB.out, FP.out, FQ.out, FR.out, FX.out, OW.out, HEK.out, HFI.out⟩
  case rest =>
  revert wc
  intro W8 hcut
  obtain ⟨X, hb, hp, hq, hr, hx, ho, hek, hfi⟩ := hcut
  have HE5 : Hid (appF B A = appJ B X A x) := by
    unfold Hid
    rw [HE4.out]
    unfold appI
    rw [hfi]
  go_step
  rw [← HQQ.out]
  exact applyMid_any HK HV HF HKK HSX hi HQ0 (hide hek) HE5 (hide hb) (hide hp) (hide hq) (hide hr) (hide hx) (hide ho) hfr hz3
end Go.Proofs.YtaogpeebencnoaaGreatDoor
namespace Go.Proofs.YtaogpeebencnoaaGreatDoor
open Go.RowKit Go.Deep

set_option maxRecDepth 20000 in
set_option maxHeartbeats 16000000 in
theorem l15Apply_any (lo : Nat) (sv cv bv ev : Value) (B : Sb) (A : Ac) (w : World) (h : SbAt lo w sv cv bv B) (ha : AcAt lo w ev A) (hn : SbSmall B) (hv : validB B = true) :
    Calls Tryz.prog 20 #[.agg #[.int .i64 B.now, sv, cv, bv], .agg #[.string A.sv, .int .i64 A.sn, .int .i64 A.cr, .int .i64 A.wa, .int .i64 A.cl, .bool A.sc, ev, .bool A.dp]] w fun e w' => SbRes w e w' (appF B A).1 (appF B A).2 := by
  have HK := hide h
  have HA := hide ha
  have HN := hide hn
  have HV := hide hv
  obtain ⟨a0, k0, rfl⟩ := h.svs.form
  obtain ⟨a1, k1, rfl⟩ := h.cps.form
  obtain ⟨a2, k2, rfl⟩ := h.bes.form
  obtain ⟨ea, ec, rfl⟩ := ha.ens.form
  have hem := ha.ens.max
  unfold maxLen at hem
  clear h ha hn hv
  go_enter Tryz.func20, Tryz.ntmps20
  go_wp2_with fail
  generalize hWa : World.alloc (World.alloc (w.alloc _) _) _ = Wa
  have HB : Hid (Below w.heap.size w Wa) := by rw [← hWa]; exact ((one_al w _).alloc (by simp) _).alloc (by simp; omega) _
  have FP : Hid (Box Wa w.heap.size #[.int .i64 B.now, .slice a0 B.ss.length k0, .slice a1 B.cs.length k1, .slice a2 B.bs.length k2]) := by rw [← hWa]; exact ((Box.new _ _ _ _ rfl).on (one_al _ _)).on (one_al _ _)
  have FQ : Hid (Box Wa (w.heap.size + 1) #[.string A.sv, .int .i64 A.sn, .int .i64 A.cr, .int .i64 A.wa, .int .i64 A.cl, .bool A.sc, .slice ea A.es.length ec, .bool A.dp]) := by rw [← hWa]; exact (Box.new _ _ _ _ (by simp)).on (one_al _ _)
  have FR : Hid (Box Wa (w.heap.size + 1 + 1) #[.int .i64 0, .slice none 0 0, .slice none 0 0, .slice none 0 0]) := by rw [← hWa]; exact Box.new _ _ _ _ (by simp)
  clear hWa
  refine (actOk_any lo _ A _ (HA.out.below HB.out)).mono ?_
  rintro e w1 ⟨rfl, hb1⟩
  replace HB := hide (bt HB.out hb1)
  replace FP := hide (FP.out.on hb1)
  replace FQ := hide (FQ.out.on hb1)
  replace FR := hide (FR.out.on hb1)
  clear hb1
  cases q0 : actB A with
  | false =>
    have HE : Hid (appF B A = (B, 2)) := by unfold Hid appF; rw [q0]; rfl
    have r0 := FR.out.cell
    have g0 := FR.out.free
    have p := FP.out.cell
    go_wp2
    refine bodyPost_ret (v := .tuple #[.agg #[.int .i64 B.now, .slice a0 B.ss.length k0, .slice a1 B.cs.length k1, .slice a2 B.bs.length k2], .int .i64 2]) (by simp [results, Tryz.results20, go_sem, r0]) rfl ?_
    rw [HE.out]
    have hbb := below_sets4 HB.out (show w.heap.size ≤ w.heap.size + 1 + 1 by omega) (.int .i64 B.now) (.slice a0 B.ss.length k0) (.slice a1 B.cs.length k1) (.slice a2 B.bs.length k2)
    exact ⟨_, _, _, _, _, _, rfl, hbb, (HK.out.below hbb).mono (Nat.zero_le _)⟩
  | true =>
  have p := FP.out.cell
  have q := FQ.out.cell
  go_wp2_with fail
  clear p q
  refine (service_any lo _ _ _ B A.sv _ (HK.out.below HB.out)).mono ?_
  rintro e w2 ⟨r, rfl, hb2, hr⟩
  replace HB := hide (bt HB.out hb2)
  replace FP := hide (FP.out.on hb2)
  replace FQ := hide (FQ.out.on hb2)
  replace FR := hide (FR.out.on hb2)
  clear hb2
  rcases hr with ⟨rfl, hf⟩ | ⟨rfl, hi, hf⟩
  · have HE : Hid (appF B A = (B, 3)) := by unfold Hid appF; rw [q0, hf]; rfl
    have r0 := FR.out.cell
    have g0 := FR.out.free
    have p := FP.out.cell
    go_wp2
    refine bodyPost_ret (v := .tuple #[.agg #[.int .i64 B.now, .slice a0 B.ss.length k0, .slice a1 B.cs.length k1, .slice a2 B.bs.length k2], .int .i64 3]) (by simp [results, Tryz.results20, go_sem, r0]) rfl ?_
    rw [HE.out]
    have hbb := below_sets4 HB.out (show w.heap.size ≤ w.heap.size + 1 + 1 by omega) (.int .i64 B.now) (.slice a0 B.ss.length k0) (.slice a1 B.cs.length k1) (.slice a2 B.bs.length k2)
    exact ⟨_, _, _, _, _, _, rfl, hbb, (HK.out.below hbb).mono (Nat.zero_le _)⟩
  obtain ⟨x, hx⟩ : ∃ x, x = B.ss[svI B.ss A.sv] := ⟨_, rfl⟩
  rw [← hx] at hf
  have HSX := hide hx
  have HI : Hid (svI B.ss A.sv < B.ss.length) := hi
  obtain ⟨K, hK⟩ : ∃ K, K = svI B.ss A.sv := ⟨_, rfl⟩
  have HKK := hide hK
  rw [← hK] at hi ⊢
  have HE1 : Hid (appF B A = appG B A x) := by unfold Hid appF; rw [q0, hf]; rfl
  have HF := hide hf
  have HQ0 := hide q0
  clear hx hK hf q0
  go_wp2
  obtain ⟨W1, hW1⟩ : ∃ W, W = w2 := ⟨_, rfl⟩
  subst hW1
  go_loopw [7] (fun i wr => ∃ j : Nat, i = .int .i64 j ∧ j ≤ A.es.length ∧ Below w.heap.size w wr ∧ Box wr w.heap.size #[.int .i64 B.now, .slice a0 B.ss.length k0, .slice a1 B.cs.length k1, .slice a2 B.bs.length k2] ∧ Box wr (w.heap.size + 1) #[.string A.sv, .int .i64 A.sn, .int .i64 A.cr, .int .i64 A.wa, .int .i64 A.cl, .bool A.sc, .slice ea A.es.length ec, .bool A.dp] ∧ Box wr (w.heap.size + 1 + 1) #[.int .i64 0, .slice none 0 0, .slice none 0 0, .slice none 0 0] ∧ (∀ l (h : l < A.es.length), l < j → (cpF B.cs A.sv A.es[l].nu).isSome = true)) (fun i _ => A.es.length - (intOf i).toNat)
  case atStart => exact ⟨0, rfl, by omega, HB.out, FP.out, FQ.out, FR.out, fun l _ h => by omega⟩
  case round =>
    obtain ⟨j, rfl, hj, hb, hp, hq, hr, hall⟩ := hrel
    replace HB := hide hb
    replace FP := hide hp
    replace FQ := hide hq
    replace FR := hide hr
    have HAL := hide hall
    clear hb hp hq hr hall
    by_cases hlt : j < A.es.length
    · obtain ⟨eb, eo, rfl, hew, -, hec⟩ := HA.out.ens.full' (by omega)
      have HEC := hide ((hec j hlt).2.below HB.out hew)
      have q6 := FQ.out.cell 6
      simp at q6
      clear hec
      go_wp2
      clear q6
      go_cut [46] (fun c wc => c = .bool (decide (cpR B.cs A.sv A.es[j].nu < 0)) ∧ Below wr.heap.size wr wc)
      case first =>
        have xn : Nonempty (In (Up wr)) := ⟨⟨wr, Below.refl _ _⟩⟩
        have xs := fun (X : In (Up wr)) => in_self X
        have x0 : ∀ X : In (Up wr), X.w.cell? ⟨w.heap.size, 0, none⟩ = some (.int .i64 B.now) := fun X => Up.cell X (by rw [FP.out.cell 0]; rfl)
        have x1 : ∀ X : In (Up wr), X.w.cell? ⟨w.heap.size, 1, none⟩ = some (.slice a0 B.ss.length k0) := fun X => Up.cell X (by rw [FP.out.cell 1]; rfl)
        have x2 : ∀ X : In (Up wr), X.w.cell? ⟨w.heap.size, 2, none⟩ = some (.slice a1 B.cs.length k1) := fun X => Up.cell X (by rw [FP.out.cell 2]; rfl)
        have x3 : ∀ X : In (Up wr), X.w.cell? ⟨w.heap.size, 3, none⟩ = some (.slice a2 B.bs.length k2) := fun X => Up.cell X (by rw [FP.out.cell 3]; rfl)
        have y0 : ∀ X : In (Up wr), X.w.cell? ⟨w.heap.size + 1, 0, none⟩ = some (.string A.sv) := fun X => Up.cell X (by rw [FQ.out.cell 0]; rfl)
        have y6 : ∀ X : In (Up wr), X.w.cell? ⟨w.heap.size + 1, 6, none⟩ = some (.slice (some ⟨eb, eo, none⟩) A.es.length ec) := fun X => Up.cell X (by rw [FQ.out.cell 6]; rfl)
        have e0 : ∀ X : In (Up wr), _ := fun X => Up.cell X HEC.out.c0
        have i0 : (0 : Int) ≤ (j : Int) := by omega
        have i1 : (j : Int) < (A.es.length : Int) := by omega
        refine wp_region_class (Up wr) (by kernel_rfl) (by kernel_rfl) ((Below.refl _ _).drew) ?_
        repeat (go_big_quiet_step ((go_at_call 51; rename_i X; exact (copyR_any lo _ _ _ B A.sv A.es[j].nu _ (HK.out.below (bt HB.out X.h))).mono fun _ _ h => ⟨h.1, Up.next X h.2⟩)))
        refine wpQuiet_nil ?_
        intro wn hw
        obtain ⟨X, hX⟩ := hw
        have HWN : Below wr.heap.size wr wn := by rw [hX]; exact X.h
        clear hX X x0 x1 x2 x3 y0 y6 e0 xs xn
        go_wp2
        go_meet
        exact ⟨rfl, HWN⟩
      case rest =>
      obtain ⟨rfl, hbc⟩ := hcut
      replace HB := hide (bt HB.out hbc)
      replace FP := hide (FP.out.on hbc)
      replace FQ := hide (FQ.out.on hbc)
      replace FR := hide (FR.out.on hbc)
      have HNE := hide (cpR_neg B.cs A.sv A.es[j].nu)
      clear hbc HEC
      cases hq : (cpF B.cs A.sv A.es[j].nu).isSome with
      | false =>
        have hd : decide (cpR B.cs A.sv A.es[j].nu < 0) = true := by rw [HNE.out, hq]; rfl
        have HE : Hid (appF B A = (B, 3)) := by unfold Hid; rw [HE1.out]; unfold appG exB; rw [all_no hlt hq]; rfl
        rw [hd]
        have r0 := FR.out.cell
        have g0 := FR.out.free
        have p := FP.out.cell
        go_wp2
        refine bodyPost_ret (v := .tuple #[.agg #[.int .i64 B.now, .slice a0 B.ss.length k0, .slice a1 B.cs.length k1, .slice a2 B.bs.length k2], .int .i64 3]) (by simp [results, Tryz.results20, go_sem, r0]) rfl ?_
        rw [HE.out]
        have hbb := below_sets4 HB.out (show w.heap.size ≤ w.heap.size + 1 + 1 by omega) (.int .i64 B.now) (.slice a0 B.ss.length k0) (.slice a1 B.cs.length k1) (.slice a2 B.bs.length k2)
        exact ⟨_, _, _, _, _, _, rfl, hbb, (HK.out.below hbb).mono (Nat.zero_le _)⟩
      | true =>
        have hd : decide (cpR B.cs A.sv A.es[j].nu < 0) = false := by rw [HNE.out, hq]; rfl
        have HQ := hide hq
        rw [hd]
        clear hd hq
        go_wp2
        go_roundw
        case rel => exact ⟨j + 1, by go_num, by omega, HB.out, FP.out, FQ.out, FR.out, step_all (f := fun e => (cpF B.cs A.sv e.nu).isSome) HAL.out hlt HQ.out⟩
        case measure => simp [intOf]; omega
    · have HE2 : Hid (appF B A = appH B A x) := by
        unfold Hid
        rw [HE1.out]
        unfold appG exB
        rw [all_yes (f := fun e => (cpF B.cs A.sv e.nu).isSome) (fun i hi => HAL.out i hi (by omega))]
        rfl
      have HEX : Hid (∀ l (h : l < A.es.length), (cpF B.cs A.sv A.es[l].nu).isSome = true) := fun l h => HAL.out l h (by omega)
      clear HAL HE1
      obtain ⟨sb, so, rfl, hsb, -, hsc⟩ := HK.out.svs.full' (by omega)
      have HSV : Hid (SvCells w sb (so + K * 13) x) := by
        have := (hsc K hi).2
        have e : B.ss[K]'hi = x := by rw [HSX.out]; congr 1
        rwa [e] at this
      clear hsc
      have s1 := (HSV.out.below HB.out hsb).c1
      have p1 := FP.out.cell 1
      have q1 := FQ.out.cell 1
      have q6 := FQ.out.cell 6
      simp at p1 q1 q6
      obtain ⟨W2, hW2⟩ : ∃ W, W = wr := ⟨_, rfl⟩
      subst hW2
      go_wp2
      go_quiet (fail)
      replace HB := hide (below_drewN HB.out nq)
      replace FP := hide (FP.out.below (below_drewN (Below.refl _ _) nq) FP.out.lt)
      replace FQ := hide (FQ.out.below (below_drewN (Below.refl _ _) nq) FQ.out.lt)
      replace FR := hide (FR.out.below (below_drewN (Below.refl _ _) nq) FR.out.lt)
      clear s1 p1 q1 q6
      generalize W2.drewN nq = W3 at *
      cases q1 : (x.ve == A.sn) with
      | false =>
        have hd : (x.ve != A.sn) = true := by simp only [bne, q1]; rfl
        have HE : Hid (appF B A = (B, 4)) := by unfold Hid; rw [HE2.out]; unfold appH; rw [q1]; rfl
        have r0 := FR.out.cell
        have g0 := FR.out.free
        have p := FP.out.cell
        go_wp2
        refine bodyPost_ret (v := .tuple #[.agg #[.int .i64 B.now, .slice (some ⟨sb, so, none⟩) B.ss.length k0, .slice a1 B.cs.length k1, .slice a2 B.bs.length k2], .int .i64 4]) (by simp [results, Tryz.results20, go_sem, r0]) rfl ?_
        rw [HE.out]
        have hbb := below_sets4 HB.out (show w.heap.size ≤ w.heap.size + 1 + 1 by omega) (.int .i64 B.now) (.slice (some ⟨sb, so, none⟩) B.ss.length k0) (.slice a1 B.cs.length k1) (.slice a2 B.bs.length k2)
        exact ⟨_, _, _, _, _, _, rfl, hbb, (HK.out.below hbb).mono (Nat.zero_le _)⟩
      | true =>
      have hd : (x.ve != A.sn) = false := by simp only [bne, q1]; rfl
      have HE3 : Hid (appF B A = if veB B A then appI B A x else (B, 4)) := by unfold Hid; rw [HE2.out]; unfold appH; rw [q1]; rfl
      clear HE2
      go_wp2
      clear hd q1
      go_loopw [8] (fun i wr => ∃ j : Nat, i = .int .i64 j ∧ j ≤ A.es.length ∧ Below w.heap.size w wr ∧ Box wr w.heap.size #[.int .i64 B.now, .slice (some ⟨sb, so, none⟩) B.ss.length k0, .slice a1 B.cs.length k1, .slice a2 B.bs.length k2] ∧ Box wr (w.heap.size + 1) #[.string A.sv, .int .i64 A.sn, .int .i64 A.cr, .int .i64 A.wa, .int .i64 A.cl, .bool A.sc, .slice ea A.es.length ec, .bool A.dp] ∧ Box wr (w.heap.size + 1 + 1) #[.int .i64 0, .slice none 0 0, .slice none 0 0, .slice none 0 0] ∧ (∀ l (h : l < A.es.length), l < j → veE B A A.es[l] = true)) (fun i _ => A.es.length - (intOf i).toNat)
      case atStart => exact ⟨0, rfl, by omega, HB.out, FP.out, FQ.out, FR.out, fun l _ h => by omega⟩
      case round =>
        obtain ⟨j, rfl, hj, hb, hp, hq, hr, hall⟩ := hrel
        replace HB := hide hb
        replace FP := hide hp
        replace FQ := hide hq
        replace FR := hide hr
        have HAL := hide hall
        clear hb hp hq hr hall
        by_cases hlt : j < A.es.length
        · obtain ⟨eb, eo, rfl, hew, -, hec⟩ := HA.out.ens.full' (by omega)
          have HEC := hide ((hec j hlt).2.below HB.out hew)
          obtain ⟨ci, hci, hcr, hcf, -⟩ := cpR_some (HEX.out j hlt)
          obtain ⟨cb, co, rfl, hcb, -, hcc⟩ := HK.out.cps.full' (by omega)
          have HCC := hide ((hcc ci hci).2.below HB.out hcb)
          have HVE : Hid (veE B A A.es[j] = (B.cs[ci].ve == A.es[j].sn)) := by unfold Hid veE; rw [hcf]
          have HCR := hide hcr
          have q6 := FQ.out.cell 6
          simp at q6
          clear hec hcc hcr hcf
          go_wp2
          clear q6
          go_cut [86] (fun c wc => c = .bool (B.cs[ci].ve != A.es[j].sn) ∧ Below wr.heap.size wr wc)
          case first =>
            have xn : Nonempty (In (Up wr)) := ⟨⟨wr, Below.refl _ _⟩⟩
            have xs := fun (X : In (Up wr)) => in_self X
            have x0 : ∀ X : In (Up wr), X.w.cell? ⟨w.heap.size, 0, none⟩ = some (.int .i64 B.now) := fun X => Up.cell X (by rw [FP.out.cell 0]; rfl)
            have x1 : ∀ X : In (Up wr), X.w.cell? ⟨w.heap.size, 1, none⟩ = some (.slice (some ⟨sb, so, none⟩) B.ss.length k0) := fun X => Up.cell X (by rw [FP.out.cell 1]; rfl)
            have x2 : ∀ X : In (Up wr), X.w.cell? ⟨w.heap.size, 2, none⟩ = some (.slice (some ⟨cb, co, none⟩) B.cs.length k1) := fun X => Up.cell X (by rw [FP.out.cell 2]; rfl)
            have x3 : ∀ X : In (Up wr), X.w.cell? ⟨w.heap.size, 3, none⟩ = some (.slice a2 B.bs.length k2) := fun X => Up.cell X (by rw [FP.out.cell 3]; rfl)
            have y0 : ∀ X : In (Up wr), X.w.cell? ⟨w.heap.size + 1, 0, none⟩ = some (.string A.sv) := fun X => Up.cell X (by rw [FQ.out.cell 0]; rfl)
            have y6 : ∀ X : In (Up wr), X.w.cell? ⟨w.heap.size + 1, 6, none⟩ = some (.slice (some ⟨eb, eo, none⟩) A.es.length ec) := fun X => Up.cell X (by rw [FQ.out.cell 6]; rfl)
            have e0 : ∀ X : In (Up wr), _ := fun X => Up.cell X HEC.out.c0
            have e1 : ∀ X : In (Up wr), _ := fun X => Up.cell X HEC.out.c1
            have d2 : ∀ X : In (Up wr), _ := fun X => Up.cell X HCC.out.c2
            have i0 : (0 : Int) ≤ (j : Int) := by omega
            have i1 : (j : Int) < (A.es.length : Int) := by omega
            have j0 : (0 : Int) ≤ (ci : Int) := by omega
            have j1 : (ci : Int) < (B.cs.length : Int) := by omega
            refine wp_region_class (Up wr) (by kernel_rfl) (by kernel_rfl) ((Below.refl _ _).drew) ?_
            repeat (go_big_quiet_step ((go_at_call 51; rename_i X; exact (copyR_any lo _ _ _ B A.sv A.es[j].nu _ (HK.out.below (bt HB.out X.h))).mono fun _ _ h => ⟨h.1.trans (by rw [HCR.out]), Up.next X h.2⟩)))
            refine wpQuiet_nil ?_
            intro wn hw
            obtain ⟨X, hX⟩ := hw
            have HWN : Below wr.heap.size wr wn := by rw [hX]; exact X.h
            clear hX X x0 x1 x2 x3 y0 y6 e0 e1 d2 xs xn
            go_wp2
            go_meet
            exact ⟨rfl, HWN⟩
          case rest =>
          obtain ⟨rfl, hbc⟩ := hcut
          replace HB := hide (bt HB.out hbc)
          replace FP := hide (FP.out.on hbc)
          replace FQ := hide (FQ.out.on hbc)
          replace FR := hide (FR.out.on hbc)
          clear hbc HEC HCC
          cases hq : (B.cs[ci].ve == A.es[j].sn) with
          | false =>
            have hd : (B.cs[ci].ve != A.es[j].sn) = true := by simp only [bne, hq]; rfl
            have HE : Hid (appF B A = (B, 4)) := by unfold Hid; rw [HE3.out]; unfold veB; rw [all_no hlt (HVE.out.trans hq)]; rfl
            rw [hd]
            have r0 := FR.out.cell
            have g0 := FR.out.free
            have p := FP.out.cell
            go_wp2
            refine bodyPost_ret (v := .tuple #[.agg #[.int .i64 B.now, .slice (some ⟨sb, so, none⟩) B.ss.length k0, .slice (some ⟨cb, co, none⟩) B.cs.length k1, .slice a2 B.bs.length k2], .int .i64 4]) (by simp [results, Tryz.results20, go_sem, r0]) rfl ?_
            rw [HE.out]
            have hbb := below_sets4 HB.out (show w.heap.size ≤ w.heap.size + 1 + 1 by omega) (.int .i64 B.now) (.slice (some ⟨sb, so, none⟩) B.ss.length k0) (.slice (some ⟨cb, co, none⟩) B.cs.length k1) (.slice a2 B.bs.length k2)
            exact ⟨_, _, _, _, _, _, rfl, hbb, (HK.out.below hbb).mono (Nat.zero_le _)⟩
          | true =>
            have hd : (B.cs[ci].ve != A.es[j].sn) = false := by simp only [bne, hq]; rfl
            have HQ := hide (HVE.out.trans hq)
            rw [hd]
            clear hd hq
            go_wp2
            go_roundw
            case rel => exact ⟨j + 1, by go_num, by omega, HB.out, FP.out, FQ.out, FR.out, step_all (f := veE B A) HAL.out hlt HQ.out⟩
            case measure => simp [intOf]; omega
        · have HE4 : Hid (appF B A = appI B A x) := by
            unfold Hid
            rw [HE3.out]
            unfold veB
            rw [all_yes (f := veE B A) (fun i hi => HAL.out i hi (by omega))]
            rfl
          clear HAL HE3
          have HNOW := hide (valid_now HV.out)
          have p := FP.out.cell
          have q6 := FQ.out.cell 6
          simp at q6
          obtain ⟨W3, hW3⟩ : ∃ W, W = wr := ⟨_, rfl⟩
          subst hW3
          have FRW := hide FR.out.lt
          go_wp2_with fail
          clear p q6
          refine (l12Book_any lo _ _ _ B _ (HK.out.below HB.out) HN.out).mono ?_
          rintro e w3 ⟨b0, m0, b1, m1, b2, m2, rfl, hb3, ho3⟩
          replace HB := hide (bt HB.out hb3)
          replace FP := hide (FP.out.on hb3)
          replace FQ := hide (FQ.out.on hb3)
          replace FR := hide (FR.out.on hb3)
          have OW := hide ho3
          have hz3 := hb3.size
          have hfr : w.heap.size + 1 + 1 < W3.heap.size := FRW.out
          clear FRW
          clear hb3 ho3
          have p0 : ∀ o, (w3.alloc o).cell? ⟨w.heap.size, 0, none⟩ = some (.int .i64 B.now) := fun o => by rw [(FP.out.on (one_al _ o)).cell 0]; rfl
          have hw10 : IntKind.i64.wrap (B.now + 1) = B.now + 1 := by have := HNOW.out; rw [IntWalk.i64_left]; unfold wrap64; omega
          go_upto_region 19 with fail
          generalize hWn : w3.alloc _ = W4
          have hbn : Below w3.heap.size w3 W4 := by rw [← hWn]; exact one_al _ _
          have FX : Hid (Box W4 w3.heap.size #[.int .i64 B.now, .slice b0 B.ss.length m0, .slice b1 B.cs.length m1, .slice b2 B.bs.length m2]) := by rw [← hWn]; exact Box.new _ _ _ _ rfl
          replace HB := hide (bt HB.out hbn)
          replace FP := hide (FP.out.on hbn)
          replace FQ := hide (FQ.out.on hbn)
          replace FR := hide (FR.out.on hbn)
          replace OW := hide (OW.out.below hbn)
          clear hbn
          have p0 := FP.out.cell 0
          simp at p0
          clear hWn
          go_step
          go_step
          go_step
          go_step
          go_step
          go_step
          go_step
          go_step
          go_step
          go_step
          go_step
          go_step
          go_step
          go_step
          go_step
          go_step
          exact applyEnds_any HK HV HF HKK HSX hi HQ0 HA HE4 HB FP FQ FR FX OW hfr hz3
end Go.Proofs.YtaogpeebencnoaaGreatDoor
