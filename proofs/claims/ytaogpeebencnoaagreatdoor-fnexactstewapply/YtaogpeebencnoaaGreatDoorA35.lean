import Derived.Test.YtaogpeebencnoaaGreatDoorA34
namespace Go.Proofs.YtaogpeebencnoaaGreatDoor
open Go.RowKit Go.Deep

set_option maxRecDepth 20000 in
set_option maxHeartbeats 16000000 in
theorem applyMid_any {lo : Nat} {w W3 w3 W8 : World} {sb so k0 k1 k2 : Nat} {a1 a2 ea : Option Addr} {ec m0 m1 m2 : Nat} {b0 b1 b2 : Option Addr} {K : Nat} {B X : Sb} {A : Ac} {x : Sv} {v5 v7 v8 v11 v12 v13 v14 v15 v16 v17 : Value} {u18 u19 u20 u21 u22 u23 u24 u25 u26 u27 u28 u29 u30 u31 u32 u33 u34 u35 u36 u37 u38 u39 u40 u41 u42 u43 u44 u45 u46 u47 u48 u49 u50 u51 u52 u53 u54 u55 u56 u57 u58 u59 u60 u61 u62 u63 u64 u65 u66 u67 u68 u69 u70 u71 u72 u73 u74 u75 u76 u77 u78 u79 u80 u81 u82 u83 u84 u85 u86 u87 u88 u89 u90 u91 u92 u93 u94 u95 u96 u97 u98 u99 u100 u101 u102 u103 u104 u105 u106 u107 u108 u109 u110 u111 u112 u113 u114 u115 u116 u117 u118 u119 u120 u121 u122 u123 u124 u125 u126 u127 u128 u129 u130 u131 u132 u133 u134 u135 u136 u137 u138 u139 u140 u141 u142 u143 u144 u145 u146 u147 u148 u149 u150 u151 u152 u153 u154 u155 u156 u157 u158 u159 u160 u161 u162 u163 u164 u165 u166 u167 u168 u169 u170 u171 u172 u173 u174 u175 u176 u177 u178 u179 u180 u181 u182 u183 u184 u185 u186 u187 u188 u189 u190 u191 u192 u193 u194 u195 u196 u197 u198 u199 u200 u201 u202 u203 u204 u205 u206 u207 u208 u209 u210 u211 u212 u213 u214 u215 u216 u217 u218 u219 u220 u221 u222 u223 u224 u225 u226 u227 u228 u229 u230 u231 u232 u233 u234 u235 u236 u237 u238 u239 u240 u241 u242 u243 u244 u245 u246 u247 u248 u249 u250 u251 u252 u253 u254 u255 u256 u257 u258 u259 u260 u261 u262 u263 u264 u265 u266 u267 u268 u269 u270 u271 u272 u273 u274 u275 u276 u277 u278 u279 u280 u281 u282 u283 u284 u285 u286 u287 u288 u289 u290 u291 u292 u293 u294 u295 u296 u297 u298 u299 u300 u301 u302 : Value}
    (HK : Hid (SbAt lo w (.slice (some ⟨sb, so, none⟩) B.ss.length k0) (.slice a1 B.cs.length k1) (.slice a2 B.bs.length k2) B)) (HV : Hid (validB B = true)) (HF : Hid (svF B.ss A.sv = some x)) (HKK : Hid (K = svI B.ss A.sv)) {hI : svI B.ss A.sv < B.ss.length} (HSX : Hid (x = B.ss[svI B.ss A.sv])) (hi : K < B.ss.length) (HQ0 : Hid (actB A = true)) (HEK : Hid (EndOk B X)) (HE5 : Hid (appF B A = appJ B X A x))
    (HB : Hid (Below w.heap.size w W8)) (FP : Hid (Box W8 w.heap.size #[.int .i64 B.now, .slice (some ⟨sb, so, none⟩) B.ss.length k0, .slice a1 B.cs.length k1, .slice a2 B.bs.length k2])) (FQ : Hid (Box W8 (w.heap.size + 1) #[.string A.sv, .int .i64 A.sn, .int .i64 A.cr, .int .i64 A.wa, .int .i64 A.cl, .bool A.sc, .slice ea A.es.length ec, .bool A.dp])) (FR : Hid (Box W8 (w.heap.size + 1 + 1) #[.int .i64 0, .slice none 0 0, .slice none 0 0, .slice none 0 0])) (FX : Hid (Box W8 w3.heap.size #[.int .i64 B.now, .slice b0 B.ss.length m0, .slice b1 B.cs.length m1, .slice b2 B.bs.length m2])) (OW : Hid (SbOwn W3.heap.size w3.heap.size W8 (.slice b0 B.ss.length m0) (.slice b1 B.cs.length m1) (.slice b2 B.bs.length m2) X)) (hfr : w.heap.size + 1 + 1 < W3.heap.size) (hz3 : W3.heap.size ≤ w3.heap.size) :
    Code.wp Tryz.prog (nthC 10 (Tryz.f20.body.getD .ret)) (bodyPost Tryz.prog Tryz.f20 fun e w' => SbRes w e w' (appF B A).1 (appF B A).2) { tmps := #[.agg #[.int .i64 B.now, .slice (some ⟨sb, so, none⟩) B.ss.length k0, .slice a1 B.cs.length k1, .slice a2 B.bs.length k2], .agg #[.string A.sv, .int .i64 A.sn, .int .i64 A.cr, .int .i64 A.wa, .int .i64 A.cl, .bool A.sc, .slice ea A.es.length ec, .bool A.dp], .pointer (some ⟨w.heap.size, 0, none⟩), .pointer (some ⟨w.heap.size + 1, 0, none⟩), .pointer (some ⟨w.heap.size + 1 + 1, 0, none⟩), v5, .int .i64 K, v7, v8, .pointer (some ⟨w3.heap.size, 0, none⟩), .int .i64 (B.now + 1), v11, v12, v13, v14, v15, v16, v17, u18, u19, u20, u21, u22, u23, u24, u25, u26, u27, u28, u29, u30, u31, u32, u33, u34, u35, u36, u37, u38, u39, u40, u41, u42, u43, u44, u45, u46, u47, u48, u49, u50, u51, u52, u53, u54, u55, u56, u57, u58, u59, u60, u61, u62, u63, u64, u65, u66, u67, u68, u69, u70, u71, u72, u73, u74, u75, u76, u77, u78, u79, u80, u81, u82, u83, u84, u85, u86, u87, u88, u89, u90, u91, u92, u93, u94, u95, u96, u97, u98, u99, u100, u101, u102, u103, u104, u105, u106, u107, u108, u109, u110, u111, u112, u113, u114, u115, u116, u117, u118, u119, u120, u121, u122, u123, u124, u125, u126, u127, u128, u129, u130, u131, u132, u133, u134, u135, u136, u137, u138, u139, u140, u141, u142, u143, u144, u145, u146, u147, u148, u149, u150, u151, u152, u153, u154, u155, u156, u157, u158, u159, u160, u161, u162, u163, u164, u165, u166, u167, u168, u169, u170, u171, u172, u173, u174, u175, u176, u177, u178, u179, u180, u181, u182, u183, u184, u185, u186, u187, u188, u189, u190, u191, u192, u193, u194, u195, u196, u197, u198, u199, u200, u201, u202, u203, u204, u205, u206, u207, u208, u209, u210, u211, u212, u213, u214, u215, u216, u217, u218, u219, u220, u221, u222, u223, u224, u225, u226, u227, u228, u229, u230, u231, u232, u233, u234, u235, u236, u237, u238, u239, u240, u241, u242, u243, u244, u245, u246, u247, u248, u249, u250, u251, u252, u253, u254, u255, u256, u257, u258, u259, u260, u261, u262, u263, u264, u265, u266, u267, u268, u269, u270, u271, u272, u273, u274, u275, u276, u277, u278, u279, u280, u281, u282, u283, u284, u285, u286, u287, u288, u289, u290, u291, u292, u293, u294, u295, u296, u297, u298, u299, u300, u301, u302], defers := [] } W8 := by
  simp only [nthC, Tryz.f20, Option.getD_some]
  obtain ⟨ub, uo, rfl, hub, -, huc⟩ := (show SvsAt W3.heap.size W8 (.slice b0 B.ss.length m0) B.ss from by have := OW.out.at.svs; rw [HEK.out.ss] at this; exact this).full' (by omega)
  have hcx : SvCells W8 ub (uo + K * 13) x := by
    have := (huc K hi).2
    have e : B.ss[K]'hi = x := by rw [HSX.out]; congr 1
    rwa [e] at this
  obtain ⟨c0, c1, c2, c3, c4, c5, c6, c7, c8, c9, c10, c11, c12⟩ := hcx
  clear huc
  have z1 := FX.out.cell 1
  simp at z1
  have p : ∀ o i, (W8.alloc o).cell? ⟨w.heap.size, i, none⟩ = (#[.int .i64 B.now, .slice (some ⟨sb, so, none⟩) B.ss.length k0, .slice a1 B.cs.length k1, .slice a2 B.bs.length k2] : Array Value)[i]? := fun o i => (FP.out.on (one_al _ o)).cell i
  have q : ∀ o, (W8.alloc o).cell? ⟨w.heap.size + 1, 0, none⟩ = some (.string A.sv) := fun o => by rw [(FQ.out.on (one_al _ o)).cell 0]; rfl
  have hz8 : w3.heap.size < W8.heap.size := FX.out.lt
  have i0 : (0 : Int) ≤ (K : Int) := by omega
  have i1 : (K : Int) < (B.ss.length : Int) := by omega
  go_wp2_with fail
  clear z1 p q c0 c1 c2 c3 c4 c5 c6 c7 c8 c9 c10 c11 c12
  generalize hWn : W8.alloc _ = W9
  have hbn : Below W8.heap.size W8 W9 := by rw [← hWn]; exact one_al _ _
  have FS : Hid (Box W9 W8.heap.size #[.string x.nm, .int .i64 x.ve, .bool x.gn, .int .i64 x.im, .int .i64 x.wa, .int .i64 x.dn, .int .i64 x.ov, .int .i64 x.nx, .int .i64 x.pr, .int .i64 x.ls, .int .i64 x.ms, .int .i64 x.ld, .int .i64 x.cl]) := by rw [← hWn]; exact Box.new _ _ _ _ rfl
  replace HB := hide (bt HB.out hbn)
  replace FP := hide (FP.out.on hbn)
  replace FQ := hide (FQ.out.on hbn)
  replace FR := hide (FR.out.on hbn)
  replace FX := hide (FX.out.on hbn)
  replace OW := hide (OW.out.below hbn)
  clear hbn hWn
  refine (countN_any lo _ _ _ B A.sv B.now _ rfl (HK.out.below HB.out)).mono ?_
  rintro e w10 ⟨rfl, hb10⟩
  replace HB := hide (bt HB.out hb10)
  replace FP := hide (FP.out.on hb10)
  replace FQ := hide (FQ.out.on hb10)
  replace FR := hide (FR.out.on hb10)
  replace FX := hide (FX.out.on hb10)
  replace FS := hide (FS.out.on hb10)
  replace OW := hide (OW.out.below hb10)
  have hz10 : W8.heap.size < w10.heap.size := FS.out.lt
  clear hb10
  have hct : ctB B A.sv = ctL B.cs A.sv x.im := by unfold ctB; rw [HF.out]
  rw [hct]
  obtain ⟨n0, hn0⟩ : ∃ n0, n0 = ctL B.cs A.sv x.im := ⟨_, rfl⟩
  have hl0 : (0 ≤ n0.li ∧ n0.li ≤ 200) ∧ (0 ≤ n0.en ∧ n0.en ≤ 200) := by
    have h1 := ct_le (liveB A.sv) B.cs B.cs.length
    have h2 := ct_le (endB A.sv) B.cs B.cs.length
    rw [ct_all _ (Nat.le_refl _)] at h1 h2
    have h3 := valid_len HV.out
    rw [hn0]
    show (0 ≤ ct (liveB A.sv) B.cs ∧ ct (liveB A.sv) B.cs ≤ 200) ∧ (0 ≤ ct (endB A.sv) B.cs ∧ ct (endB A.sv) B.cs ≤ 200)
    omega
  rw [← hn0]
  have HE6 : Hid (appF B A = if six1 A x n0 then (B, 6) else if six2 A (scS A x) (ctL X.cs A.sv x.im).li then (B, 6) else if six3 A (scS A x) then (B, 6) else if sev B A (scS A x) then (B, 7) else (finX B X A (scS A x), 0)) := by unfold Hid; rw [HE5.out]; unfold appJ; rw [hn0]
  clear HE5 hct hn0
  go_upto_region 30 with fail
  generalize hWn : w10.alloc _ = W11
  have HH : Hid (Hs7 w #[.int .i64 B.now, .slice (some ⟨sb, so, none⟩) B.ss.length k0, .slice a1 B.cs.length k1, .slice a2 B.bs.length k2] #[.string A.sv, .int .i64 A.sn, .int .i64 A.cr, .int .i64 A.wa, .int .i64 A.cl, .bool A.sc, .slice ea A.es.length ec, .bool A.dp] #[.int .i64 0, .slice none 0 0, .slice none 0 0, .slice none 0 0] #[.int .i64 B.now, .slice (some ⟨ub, uo, none⟩) B.ss.length m0, .slice b1 B.cs.length m1, .slice b2 B.bs.length m2] #[.string x.nm, .int .i64 x.ve, .bool x.gn, .int .i64 x.im, .int .i64 x.wa, .int .i64 x.dn, .int .i64 x.ov, .int .i64 x.nx, .int .i64 x.pr, .int .i64 x.ls, .int .i64 x.ms, .int .i64 x.ld, .int .i64 x.cl] #[.int .i64 n0.li, .int .i64 n0.re, .int .i64 n0.ol, .int .i64 n0.fa, .int .i64 n0.en] w3.heap.size W8.heap.size w10.heap.size W3.heap.size w3.heap.size (.slice (some ⟨ub, uo, none⟩) B.ss.length m0) (.slice b1 B.cs.length m1) (.slice b2 B.bs.length m2) X W11) := by
    have hbn : Below w10.heap.size w10 W11 := by rw [← hWn]; exact one_al _ _
    exact ⟨bt HB.out hbn, FP.out.on hbn, FQ.out.on hbn, FR.out.on hbn, FX.out.on hbn, FS.out.on hbn, by rw [← hWn]; exact Box.new _ _ _ _ rfl, OW.out.below hbn⟩
  clear hWn HB FP FQ FR FX FS OW
  go_cut [156] from 18 (fun c wx => c = .bool (six1 A x n0) ∧ wx = W11)
  case first =>
    have y7 := HH.out.fq.cell 7
    have s2 := HH.out.fs.cell 2
    have t0 := HH.out.ft.cell 0
    have t4 := HH.out.ft.cell 4
    simp at y7 s2 t0 t4
    have hw : IntKind.i64.wrap (n0.li + n0.en) = n0.li + n0.en := by rw [IntWalk.i64_left]; unfold wrap64; omega
    obtain ⟨dd, hdd⟩ : ∃ d, d = A.dp := ⟨_, rfl⟩
    obtain ⟨gg, hgg⟩ : ∃ d, d = x.gn := ⟨_, rfl⟩
    rw [← hdd] at y7
    rw [← hgg] at s2
    have HR : Hid (six1 A x n0 = (dd && (!gg || decide (0 < n0.li + n0.en)))) := by unfold Hid six1; rw [hdd, hgg]
    clear hdd hgg
    cases dd with
    | false =>
      go_wp2
      go_meet
      exact ⟨by rw [HR.out]; rfl, rfl⟩
    | true =>
      cases gg with
      | false =>
        go_wp2
        go_meet
        exact ⟨by rw [HR.out]; rfl, rfl⟩
      | true =>
        go_wp2
        go_meet
        exact ⟨by rw [HR.out]; rfl, rfl⟩
  case rest =>
  obtain ⟨rfl, hww⟩ := hcut
  replace hww := hww.symm
  subst hww
  clear hl0
  cases h6 : six1 A x n0 with
  | true =>
    have HE : Hid (appF B A = (B, 6)) := by unfold Hid; rw [HE6.out, h6]; rfl
    have HB := hide HH.out.hb
    have FP := hide HH.out.fp
    have FR := hide HH.out.fr
    have r0 := FR.out.cell
    have g0 := FR.out.free
    have p := FP.out.cell
    go_wp2
    refine bodyPost_ret (v := .tuple #[.agg #[.int .i64 B.now, .slice (some ⟨sb, so, none⟩) B.ss.length k0, .slice a1 B.cs.length k1, .slice a2 B.bs.length k2], .int .i64 6]) (by simp [results, go_sem, r0]) rfl ?_
    rw [HE.out]
    have hbb := below_sets4 HB.out (show w.heap.size ≤ w.heap.size + 1 + 1 by omega) (.int .i64 B.now) (.slice (some ⟨sb, so, none⟩) B.ss.length k0) (.slice a1 B.cs.length k1) (.slice a2 B.bs.length k2)
    exact ⟨_, _, _, _, _, _, rfl, hbb, (HK.out.below hbb).mono (Nat.zero_le _)⟩
  | false =>
  have HE7 : Hid (appF B A = if six2 A (scS A x) (ctL X.cs A.sv x.im).li then (B, 6) else if six3 A (scS A x) then (B, 6) else if sev B A (scS A x) then (B, 7) else (finX B X A (scS A x), 0)) := by unfold Hid; rw [HE6.out, h6]; rfl
  clear HE6 h6
  go_step
  go_step
  go_step
  first
    | exact applyScale_any HK HV HF HKK hi HEK HQ0 HE7 HH hfr hz3 hz8 hz10
    | (go_step; exact applyScale_any HK HV HF HKK hi HEK HQ0 HE7 HH hfr hz3 hz8 hz10)
    | (go_step; go_step; exact applyScale_any HK HV HF HKK hi HEK HQ0 HE7 HH hfr hz3 hz8 hz10)
    | (go_step; go_step; go_step; exact applyScale_any HK HV HF HKK hi HEK HQ0 HE7 HH hfr hz3 hz8 hz10)
end Go.Proofs.YtaogpeebencnoaaGreatDoor
