import Derived.Test.YtaogpeebencnoaaGreatDoorA33
namespace Go.Proofs.YtaogpeebencnoaaGreatDoor
open Go.RowKit Go.Deep

set_option maxRecDepth 20000 in
set_option maxHeartbeats 16000000 in
theorem applySix3_any {lo : Nat} {w W3 w3 W8 w10 W12 : World} {sb so k0 k1 k2 : Nat} {a1 a2 ea : Option Addr} {ec ub uo m0 m1 m2 : Nat} {b1 b2 : Option Addr} {K : Nat} {B X : Sb} {A : Ac} {x y : Sv} {n0 : Ct} {v5 v7 v8 v11 v12 v15 v16 v17 : Value} {u18 u19 u20 u21 u22 u23 u24 u25 u26 u27 u28 u29 u30 u31 u32 u33 u34 u35 u36 u37 u38 u39 u40 u41 u42 u43 u44 u45 u46 u47 u48 u49 u50 u51 u52 u53 u54 u55 u56 u57 u58 u59 u60 u61 u62 u63 u64 u65 u66 u67 u68 u69 u70 u71 u72 u73 u74 u75 u76 u77 u78 u79 u80 u81 u82 u83 u84 u85 u86 u87 u88 u89 u90 u91 u92 u93 u94 u95 u96 u97 u98 u99 u100 u101 u102 u103 u104 u105 u106 u107 u108 u109 u110 u111 u112 u113 u114 u115 u116 u117 u118 u119 u120 u121 u122 u123 u124 u125 u126 u127 u128 u129 u130 u131 u132 u133 u134 u135 u136 u137 u138 u139 u140 u141 u142 u143 u144 u145 u146 u147 u148 u149 u150 u151 u152 u153 u154 u155 u156 u157 u158 u159 u160 u161 u162 u163 u164 u165 u166 u167 u168 u169 u170 u171 u172 u173 u174 u175 u176 u177 u178 u179 u180 u181 u182 u183 u184 u185 u186 u187 u188 u189 u190 u191 u192 u193 u194 u195 u196 u197 u198 u199 u200 u201 u202 u203 u204 u205 u206 u207 u208 u209 u210 u211 u212 u213 u214 u215 u216 u217 u218 u219 u220 u221 u222 u223 u224 u225 u226 u227 u228 u229 u230 u231 u232 u233 u234 u235 u236 u237 u238 u239 u240 u241 u242 u243 u244 u245 u246 u247 u248 u249 u250 u251 u252 u253 u254 u255 u256 u257 u258 u259 u260 u261 u262 u263 u264 u265 u266 u267 u268 u269 u270 u271 u272 u273 u274 u275 u276 u277 u278 u279 u280 u281 u282 u283 u284 u285 u286 u287 u288 u289 u290 u291 u292 u293 u294 u295 u296 u297 u298 u299 u300 u301 u302 : Value}
    (HK : Hid (SbAt lo w (.slice (some ⟨sb, so, none⟩) B.ss.length k0) (.slice a1 B.cs.length k1) (.slice a2 B.bs.length k2) B)) (HV : Hid (validB B = true)) (HF : Hid (svF B.ss A.sv = some x)) (HKK : Hid (K = svI B.ss A.sv)) (hi : K < B.ss.length) (HEK : Hid (EndOk B X)) (HY : Hid (y = scS A x))
    (HYB : Hid ((0 ≤ y.wa ∧ y.wa ≤ 10) ∧ (0 ≤ y.ov ∧ y.ov ≤ 10) ∧ (1 ≤ y.nx ∧ y.nx ≤ 1000000) ∧ (0 ≤ A.cr ∧ A.cr ≤ 20))) (HE8 : Hid (appF B A = if six3 A y then (B, 6) else if sev B A y then (B, 7) else (finX B X A y, 0))) (HH : Hid (Hs7 w #[.int .i64 B.now, .slice (some ⟨sb, so, none⟩) B.ss.length k0, .slice a1 B.cs.length k1, .slice a2 B.bs.length k2] #[.string A.sv, .int .i64 A.sn, .int .i64 A.cr, .int .i64 A.wa, .int .i64 A.cl, .bool A.sc, .slice ea A.es.length ec, .bool A.dp] #[.int .i64 0, .slice none 0 0, .slice none 0 0, .slice none 0 0] #[.int .i64 B.now, .slice (some ⟨ub, uo, none⟩) B.ss.length m0, .slice b1 B.cs.length m1, .slice b2 B.bs.length m2] #[.string y.nm, .int .i64 y.ve, .bool y.gn, .int .i64 y.im, .int .i64 y.wa, .int .i64 y.dn, .int .i64 y.ov, .int .i64 y.nx, .int .i64 y.pr, .int .i64 y.ls, .int .i64 y.ms, .int .i64 y.ld, .int .i64 y.cl] #[.int .i64 n0.li, .int .i64 n0.re, .int .i64 n0.ol, .int .i64 n0.fa, .int .i64 n0.en] w3.heap.size W8.heap.size w10.heap.size W3.heap.size w3.heap.size (.slice (some ⟨ub, uo, none⟩) B.ss.length m0) (.slice b1 B.cs.length m1) (.slice b2 B.bs.length m2) X W12)) (hfr : w.heap.size + 1 + 1 < W3.heap.size) (hz3 : W3.heap.size ≤ w3.heap.size) (hz8 : w3.heap.size < W8.heap.size) (hz10 : W8.heap.size < w10.heap.size) :
    Code.wp Tryz.prog (nthC 15 (Tryz.f20.body.getD .ret)) (bodyPost Tryz.prog Tryz.f20 fun e w' => SbRes w e w' (appF B A).1 (appF B A).2) { tmps := #[.agg #[.int .i64 B.now, .slice (some ⟨sb, so, none⟩) B.ss.length k0, .slice a1 B.cs.length k1, .slice a2 B.bs.length k2], .agg #[.string A.sv, .int .i64 A.sn, .int .i64 A.cr, .int .i64 A.wa, .int .i64 A.cl, .bool A.sc, .slice ea A.es.length ec, .bool A.dp], .pointer (some ⟨w.heap.size, 0, none⟩), .pointer (some ⟨w.heap.size + 1, 0, none⟩), .pointer (some ⟨w.heap.size + 1 + 1, 0, none⟩), v5, .int .i64 K, v7, v8, .pointer (some ⟨w3.heap.size, 0, none⟩), .int .i64 (B.now + 1), v11, v12, .pointer (some ⟨W8.heap.size, 0, none⟩), .pointer (some ⟨w10.heap.size, 0, none⟩), v15, v16, v17, u18, u19, u20, u21, u22, u23, u24, u25, u26, u27, u28, u29, u30, u31, u32, u33, u34, u35, u36, u37, u38, u39, u40, u41, u42, u43, u44, u45, u46, u47, u48, u49, u50, u51, u52, u53, u54, u55, u56, u57, u58, u59, u60, u61, u62, u63, u64, u65, u66, u67, u68, u69, u70, u71, u72, u73, u74, u75, u76, u77, u78, u79, u80, u81, u82, u83, u84, u85, u86, u87, u88, u89, u90, u91, u92, u93, u94, u95, u96, u97, u98, u99, u100, u101, u102, u103, u104, u105, u106, u107, u108, u109, u110, u111, u112, u113, u114, u115, u116, u117, u118, u119, u120, u121, u122, u123, u124, u125, u126, u127, u128, u129, u130, u131, u132, u133, u134, u135, u136, u137, u138, u139, u140, u141, u142, u143, u144, u145, u146, u147, u148, u149, u150, u151, u152, u153, u154, u155, u156, u157, u158, u159, u160, u161, u162, u163, u164, u165, u166, u167, u168, u169, u170, u171, u172, u173, u174, u175, u176, u177, u178, u179, u180, u181, u182, u183, u184, u185, u186, u187, u188, u189, u190, u191, u192, u193, u194, u195, u196, u197, u198, u199, u200, u201, u202, u203, u204, u205, u206, u207, u208, u209, u210, u211, u212, u213, u214, u215, u216, u217, u218, u219, u220, u221, u222, u223, u224, u225, u226, u227, u228, u229, u230, u231, u232, u233, u234, u235, u236, u237, u238, u239, u240, u241, u242, u243, u244, u245, u246, u247, u248, u249, u250, u251, u252, u253, u254, u255, u256, u257, u258, u259, u260, u261, u262, u263, u264, u265, u266, u267, u268, u269, u270, u271, u272, u273, u274, u275, u276, u277, u278, u279, u280, u281, u282, u283, u284, u285, u286, u287, u288, u289, u290, u291, u292, u293, u294, u295, u296, u297, u298, u299, u300, u301, u302], defers := [] } W12 := by
  generalize hQQ : bodyPost Tryz.prog Tryz.f20 _ = QQ
  have HQQ := hide hQQ
  clear hQQ
  simp only [nthC, Tryz.f20, Option.getD_some]
  go_step
  go_cut [] from 18 (fun wx => wx = W12 ∧ six3 A y = false)
  case first =>
    have y5 := HH.out.fq.cell 5
    have y3 := HH.out.fq.cell 3
    have s8 := HH.out.fs.cell 8
    have s9 := HH.out.fs.cell 9
    have s10 := HH.out.fs.cell 10
    simp at y5 y3 s8 s9 s10
    obtain ⟨dd, hdd⟩ : ∃ d, d = A.sc := ⟨_, rfl⟩
    rw [← hdd] at y5
    have HR : Hid (six3 A y = (dd && ((y.pr == 0) || !inB y.ls y.ms A.wa))) := by unfold Hid six3; rw [hdd]
    clear hdd
    cases dd with
    | false =>
      have HS : Hid (six3 A y = false) := by unfold Hid; rw [HR.out]; rfl
      go_wp2_with (go_at_call 44; refine (in_any _ _ _ _).mono ?_; rintro e w' ⟨rfl, rfl⟩)
      go_meet
      exact ⟨rfl, HS.out⟩
    | true =>
      cases r2 : (y.pr == 0) with
      | true =>
        have HE : Hid (appF B A = (B, 6)) := by unfold Hid; rw [HE8.out, HR.out, r2]; rfl
        have r0 := HH.out.fr.cell
        have g0 := HH.out.fr.free
        have p := HH.out.fp.cell
        go_wp2_with (go_at_call 44; refine (in_any _ _ _ _).mono ?_; rintro e w' ⟨rfl, rfl⟩)
        rw [← HQQ.out]
        refine bodyPost_ret (v := .tuple #[.agg #[.int .i64 B.now, .slice (some ⟨sb, so, none⟩) B.ss.length k0, .slice a1 B.cs.length k1, .slice a2 B.bs.length k2], .int .i64 6]) (by simp [results, Tryz.results20, go_sem, r0]) rfl ?_
        rw [HE.out]
        have hbb := below_sets4 HH.out.hb (show w.heap.size ≤ w.heap.size + 1 + 1 by omega) (.int .i64 B.now) (.slice (some ⟨sb, so, none⟩) B.ss.length k0) (.slice a1 B.cs.length k1) (.slice a2 B.bs.length k2)
        exact ⟨_, _, _, _, _, _, rfl, hbb, (HK.out.below hbb).mono (Nat.zero_le _)⟩
      | false =>
        cases r3 : inB y.ls y.ms A.wa with
        | false =>
          have HE : Hid (appF B A = (B, 6)) := by unfold Hid; rw [HE8.out, HR.out, r2, r3]; rfl
          have r0 := HH.out.fr.cell
          have g0 := HH.out.fr.free
          have p := HH.out.fp.cell
          go_wp2_with (go_at_call 44; refine (in_any _ _ _ _).mono ?_; rintro e w' ⟨rfl, rfl⟩)
          rw [← HQQ.out]
          refine bodyPost_ret (v := .tuple #[.agg #[.int .i64 B.now, .slice (some ⟨sb, so, none⟩) B.ss.length k0, .slice a1 B.cs.length k1, .slice a2 B.bs.length k2], .int .i64 6]) (by simp [results, Tryz.results20, go_sem, r0]) rfl ?_
          rw [HE.out]
          have hbb := below_sets4 HH.out.hb (show w.heap.size ≤ w.heap.size + 1 + 1 by omega) (.int .i64 B.now) (.slice (some ⟨sb, so, none⟩) B.ss.length k0) (.slice a1 B.cs.length k1) (.slice a2 B.bs.length k2)
          exact ⟨_, _, _, _, _, _, rfl, hbb, (HK.out.below hbb).mono (Nat.zero_le _)⟩
        | true =>
          have HS : Hid (six3 A y = false) := by unfold Hid; rw [HR.out, r2, r3]; rfl
          go_wp2_with (go_at_call 44; refine (in_any _ _ _ _).mono ?_; rintro e w' ⟨rfl, rfl⟩)
          go_meet
          exact ⟨rfl, HS.out⟩
  case rest =>
  revert wc
  intro W13 hcut
  obtain ⟨rfl, hsv⟩ := hcut
  go_step
  rw [← HQQ.out]
  exact applySev_any HK HV HF HKK hi HEK HY HYB (by unfold Hid; rw [HE8.out, hsv]; rfl) HH hfr hz3 hz8 hz10
end Go.Proofs.YtaogpeebencnoaaGreatDoor
namespace Go.Proofs.YtaogpeebencnoaaGreatDoor
open Go.RowKit Go.Deep

set_option maxRecDepth 20000 in
set_option maxHeartbeats 16000000 in
theorem applyRest_any {lo : Nat} {w W3 w3 W8 w10 W12 : World} {sb so k0 k1 k2 : Nat} {a1 a2 ea : Option Addr} {ec ub uo m0 m1 m2 : Nat} {b1 b2 : Option Addr} {K : Nat} {B X : Sb} {A : Ac} {x y : Sv} {n0 : Ct} {v5 v7 v8 v11 v12 v15 v16 v17 : Value} {u18 u19 u20 u21 u22 u23 u24 u25 u26 u27 u28 u29 u30 u31 u32 u33 u34 u35 u36 u37 u38 u39 u40 u41 u42 u43 u44 u45 u46 u47 u48 u49 u50 u51 u52 u53 u54 u55 u56 u57 u58 u59 u60 u61 u62 u63 u64 u65 u66 u67 u68 u69 u70 u71 u72 u73 u74 u75 u76 u77 u78 u79 u80 u81 u82 u83 u84 u85 u86 u87 u88 u89 u90 u91 u92 u93 u94 u95 u96 u97 u98 u99 u100 u101 u102 u103 u104 u105 u106 u107 u108 u109 u110 u111 u112 u113 u114 u115 u116 u117 u118 u119 u120 u121 u122 u123 u124 u125 u126 u127 u128 u129 u130 u131 u132 u133 u134 u135 u136 u137 u138 u139 u140 u141 u142 u143 u144 u145 u146 u147 u148 u149 u150 u151 u152 u153 u154 u155 u156 u157 u158 u159 u160 u161 u162 u163 u164 u165 u166 u167 u168 u169 u170 u171 u172 u173 u174 u175 u176 u177 u178 u179 u180 u181 u182 u183 u184 u185 u186 u187 u188 u189 u190 u191 u192 u193 u194 u195 u196 u197 u198 u199 u200 u201 u202 u203 u204 u205 u206 u207 u208 u209 u210 u211 u212 u213 u214 u215 u216 u217 u218 u219 u220 u221 u222 u223 u224 u225 u226 u227 u228 u229 u230 u231 u232 u233 u234 u235 u236 u237 u238 u239 u240 u241 u242 u243 u244 u245 u246 u247 u248 u249 u250 u251 u252 u253 u254 u255 u256 u257 u258 u259 u260 u261 u262 u263 u264 u265 u266 u267 u268 u269 u270 u271 u272 u273 u274 u275 u276 u277 u278 u279 u280 u281 u282 u283 u284 u285 u286 u287 u288 u289 u290 u291 u292 u293 u294 u295 u296 u297 u298 u299 u300 u301 u302 : Value}
    (HK : Hid (SbAt lo w (.slice (some ⟨sb, so, none⟩) B.ss.length k0) (.slice a1 B.cs.length k1) (.slice a2 B.bs.length k2) B)) (HV : Hid (validB B = true)) (HF : Hid (svF B.ss A.sv = some x)) (HKK : Hid (K = svI B.ss A.sv)) (hi : K < B.ss.length) (HEK : Hid (EndOk B X)) (HY : Hid (y = scS A x))
    (HYB : Hid ((0 ≤ y.wa ∧ y.wa ≤ 10) ∧ (0 ≤ y.ov ∧ y.ov ≤ 10) ∧ (1 ≤ y.nx ∧ y.nx ≤ 1000000) ∧ (0 ≤ A.cr ∧ A.cr ≤ 20))) (HE7 : Hid (appF B A = if six2 A y (ctL X.cs A.sv x.im).li then (B, 6) else if six3 A y then (B, 6) else if sev B A y then (B, 7) else (finX B X A y, 0))) (HH : Hid (Hs7 w #[.int .i64 B.now, .slice (some ⟨sb, so, none⟩) B.ss.length k0, .slice a1 B.cs.length k1, .slice a2 B.bs.length k2] #[.string A.sv, .int .i64 A.sn, .int .i64 A.cr, .int .i64 A.wa, .int .i64 A.cl, .bool A.sc, .slice ea A.es.length ec, .bool A.dp] #[.int .i64 0, .slice none 0 0, .slice none 0 0, .slice none 0 0] #[.int .i64 B.now, .slice (some ⟨ub, uo, none⟩) B.ss.length m0, .slice b1 B.cs.length m1, .slice b2 B.bs.length m2] #[.string y.nm, .int .i64 y.ve, .bool y.gn, .int .i64 y.im, .int .i64 y.wa, .int .i64 y.dn, .int .i64 y.ov, .int .i64 y.nx, .int .i64 y.pr, .int .i64 y.ls, .int .i64 y.ms, .int .i64 y.ld, .int .i64 y.cl] #[.int .i64 n0.li, .int .i64 n0.re, .int .i64 n0.ol, .int .i64 n0.fa, .int .i64 n0.en] w3.heap.size W8.heap.size w10.heap.size W3.heap.size w3.heap.size (.slice (some ⟨ub, uo, none⟩) B.ss.length m0) (.slice b1 B.cs.length m1) (.slice b2 B.bs.length m2) X W12)) (hfr : w.heap.size + 1 + 1 < W3.heap.size) (hz3 : W3.heap.size ≤ w3.heap.size) (hz8 : w3.heap.size < W8.heap.size) (hz10 : W8.heap.size < w10.heap.size) :
    Code.wp Tryz.prog (nthC 14 (Tryz.f20.body.getD .ret)) (bodyPost Tryz.prog Tryz.f20 fun e w' => SbRes w e w' (appF B A).1 (appF B A).2) { tmps := #[.agg #[.int .i64 B.now, .slice (some ⟨sb, so, none⟩) B.ss.length k0, .slice a1 B.cs.length k1, .slice a2 B.bs.length k2], .agg #[.string A.sv, .int .i64 A.sn, .int .i64 A.cr, .int .i64 A.wa, .int .i64 A.cl, .bool A.sc, .slice ea A.es.length ec, .bool A.dp], .pointer (some ⟨w.heap.size, 0, none⟩), .pointer (some ⟨w.heap.size + 1, 0, none⟩), .pointer (some ⟨w.heap.size + 1 + 1, 0, none⟩), v5, .int .i64 K, v7, v8, .pointer (some ⟨w3.heap.size, 0, none⟩), .int .i64 (B.now + 1), v11, v12, .pointer (some ⟨W8.heap.size, 0, none⟩), .pointer (some ⟨w10.heap.size, 0, none⟩), v15, v16, v17, u18, u19, u20, u21, u22, u23, u24, u25, u26, u27, u28, u29, u30, u31, u32, u33, u34, u35, u36, u37, u38, u39, u40, u41, u42, u43, u44, u45, u46, u47, u48, u49, u50, u51, u52, u53, u54, u55, u56, u57, u58, u59, u60, u61, u62, u63, u64, u65, u66, u67, u68, u69, u70, u71, u72, u73, u74, u75, u76, u77, u78, u79, u80, u81, u82, u83, u84, u85, u86, u87, u88, u89, u90, u91, u92, u93, u94, u95, u96, u97, u98, u99, u100, u101, u102, u103, u104, u105, u106, u107, u108, u109, u110, u111, u112, u113, u114, u115, u116, u117, u118, u119, u120, u121, u122, u123, u124, u125, u126, u127, u128, u129, u130, u131, u132, u133, u134, u135, u136, u137, u138, u139, u140, u141, u142, u143, u144, u145, u146, u147, u148, u149, u150, u151, u152, u153, u154, u155, u156, u157, u158, u159, u160, u161, u162, u163, u164, u165, u166, u167, u168, u169, u170, u171, u172, u173, u174, u175, u176, u177, u178, u179, u180, u181, u182, u183, u184, u185, u186, u187, u188, u189, u190, u191, u192, u193, u194, u195, u196, u197, u198, u199, u200, u201, u202, u203, u204, u205, u206, u207, u208, u209, u210, u211, u212, u213, u214, u215, u216, u217, u218, u219, u220, u221, u222, u223, u224, u225, u226, u227, u228, u229, u230, u231, u232, u233, u234, u235, u236, u237, u238, u239, u240, u241, u242, u243, u244, u245, u246, u247, u248, u249, u250, u251, u252, u253, u254, u255, u256, u257, u258, u259, u260, u261, u262, u263, u264, u265, u266, u267, u268, u269, u270, u271, u272, u273, u274, u275, u276, u277, u278, u279, u280, u281, u282, u283, u284, u285, u286, u287, u288, u289, u290, u291, u292, u293, u294, u295, u296, u297, u298, u299, u300, u301, u302], defers := [] } W12 := by
  generalize hQQ : bodyPost Tryz.prog Tryz.f20 _ = QQ
  have HQQ := hide hQQ
  clear hQQ
  simp only [nthC, Tryz.f20, Option.getD_some]
  go_step
  obtain ⟨n1, hn1⟩ : ∃ n1, n1 = ctL X.cs A.sv x.im := ⟨_, rfl⟩
  have HC1 : Hid (ctB X A.sv = n1) := by unfold Hid ctB; rw [HEK.out.ss, HF.out, hn1]
  have hl1 : 0 ≤ n1.li ∧ n1.li ≤ 200 := by
    have h1 := ct_le (liveB A.sv) X.cs X.cs.length
    rw [ct_all _ (Nat.le_refl _)] at h1
    have h3 := HEK.out.may.len
    rw [hn1]
    show 0 ≤ ct (liveB A.sv) X.cs ∧ ct (liveB A.sv) X.cs ≤ 200
    omega
  rw [← hn1] at HE7
  clear hn1
  go_step
  go_cut [188] from 18 (fun c wx => c = .bool (six2 A y n1.li) ∧ Below W12.heap.size W12 wx)
  case first =>
    have xn : Nonempty (In (Up W12)) := ⟨⟨W12, Below.refl _ _⟩⟩
    have xs := fun (X : In (Up W12)) => in_self X
    have z0 : ∀ X : In (Up W12), X.w.cell? ⟨w3.heap.size, 0, none⟩ = some (.int .i64 B.now) := fun X => Up.cell X (by rw [HH.out.fx.cell 0]; rfl)
    have z1 : ∀ X : In (Up W12), X.w.cell? ⟨w3.heap.size, 1, none⟩ = some (.slice (some ⟨ub, uo, none⟩) B.ss.length m0) := fun X => Up.cell X (by rw [HH.out.fx.cell 1]; rfl)
    have z2 : ∀ X : In (Up W12), X.w.cell? ⟨w3.heap.size, 2, none⟩ = some (.slice b1 B.cs.length m1) := fun X => Up.cell X (by rw [HH.out.fx.cell 2]; rfl)
    have z3 : ∀ X : In (Up W12), X.w.cell? ⟨w3.heap.size, 3, none⟩ = some (.slice b2 B.bs.length m2) := fun X => Up.cell X (by rw [HH.out.fx.cell 3]; rfl)
    have y0 : ∀ X : In (Up W12), X.w.cell? ⟨w.heap.size + 1, 0, none⟩ = some (.string A.sv) := fun X => Up.cell X (by rw [HH.out.fq.cell 0]; rfl)
    have y2 : ∀ X : In (Up W12), X.w.cell? ⟨w.heap.size + 1, 2, none⟩ = some (.int .i64 A.cr) := fun X => Up.cell X (by rw [HH.out.fq.cell 2]; rfl)
    have s2 : ∀ X : In (Up W12), X.w.cell? ⟨W8.heap.size, 2, none⟩ = some (.bool y.gn) := fun X => Up.cell X (by rw [HH.out.fs.cell 2]; rfl)
    have s4 : ∀ X : In (Up W12), X.w.cell? ⟨W8.heap.size, 4, none⟩ = some (.int .i64 y.wa) := fun X => Up.cell X (by rw [HH.out.fs.cell 4]; rfl)
    have s6 : ∀ X : In (Up W12), X.w.cell? ⟨W8.heap.size, 6, none⟩ = some (.int .i64 y.ov) := fun X => Up.cell X (by rw [HH.out.fs.cell 6]; rfl)
    have hfd : ∀ u : World, (Instr.field 101 (.agg #[.int .i64 n1.li, .int .i64 n1.re, .int .i64 n1.ol, .int .i64 n1.fa, .int .i64 n1.en]) 0).run Tryz.prog u = .ok (.int .i64 n1.li) u := fun u => by rfl
    have v1 : IntKind.i64.wrap (n1.li + A.cr) = n1.li + A.cr := by have := HYB.out; rw [IntWalk.i64_left]; unfold wrap64; omega
    have v2 : IntKind.i64.wrap (y.wa + y.ov) = y.wa + y.ov := by have := HYB.out; rw [IntWalk.i64_left]; unfold wrap64; omega
    by_cases r1 : 0 < A.cr
    · cases r2 : y.gn with
      | true =>
        refine wp_region_class (Up W12) (by kernel_rfl) (by kernel_rfl) ((Below.refl _ _).drew) ?_
        repeat (go_big_quiet_step ((go_at_call 53; rename_i Y; exact (countN_any _ _ _ _ X A.sv B.now _ HEK.out.now (HH.out.ow.at.below Y.h)).mono fun _ _ h => ⟨h.1.trans (by rw [HC1.out]), Up.next Y h.2⟩)))
        refine wpQuiet_nil ?_
        intro wn hw
        obtain ⟨Y, hY⟩ := hw
        have HWN : Below W12.heap.size W12 wn := by rw [hY]; exact Y.h
        clear hY Y z0 z1 z2 z3 y0 y2 s2 s4 s6 xs xn
        go_wp2
        go_meet
        exact ⟨by unfold six2; rw [r2, decide_eq_true (show 0 < A.cr by omega)]; rfl, HWN⟩
      | false =>
        refine wp_region_class (Up W12) (by kernel_rfl) (by kernel_rfl) ((Below.refl _ _).drew) ?_
        repeat (go_big_quiet_step ((go_at_call 53; rename_i Y; exact (countN_any _ _ _ _ X A.sv B.now _ HEK.out.now (HH.out.ow.at.below Y.h)).mono fun _ _ h => ⟨h.1.trans (by rw [HC1.out]), Up.next Y h.2⟩)))
        refine wpQuiet_nil ?_
        intro wn hw
        obtain ⟨Y, hY⟩ := hw
        have HWN : Below W12.heap.size W12 wn := by rw [hY]; exact Y.h
        clear hY Y z0 z1 z2 z3 y0 y2 s2 s4 s6 xs xn
        go_wp2
        go_meet
        exact ⟨by unfold six2; rw [r2, decide_eq_true (show 0 < A.cr by omega)]; rfl, HWN⟩
    · skip
      refine wp_region_class (Up W12) (by kernel_rfl) (by kernel_rfl) ((Below.refl _ _).drew) ?_
      repeat (go_big_quiet_step ((go_at_call 53; rename_i Y; exact (countN_any _ _ _ _ X A.sv B.now _ HEK.out.now (HH.out.ow.at.below Y.h)).mono fun _ _ h => ⟨h.1.trans (by rw [HC1.out]), Up.next Y h.2⟩)))
      refine wpQuiet_nil ?_
      intro wn hw
      obtain ⟨Y, hY⟩ := hw
      have HWN : Below W12.heap.size W12 wn := by rw [hY]; exact Y.h
      clear hY Y z0 z1 z2 z3 y0 y2 s2 s4 s6 xs xn
      go_wp2
      go_meet
      exact ⟨by unfold six2; rw [decide_eq_false (show ¬ 0 < A.cr by omega)]; rfl, HWN⟩
  case rest =>
  revert wc
  intro W13 hcut
  obtain ⟨rfl, hbc⟩ := hcut
  replace HH := hide (HH.out.on hbc)
  clear hbc HC1 hl1
  cases h6 : six2 A y n1.li with
  | true =>
    have HE : Hid (appF B A = (B, 6)) := by unfold Hid; rw [HE7.out, h6]; rfl
    have r0 := HH.out.fr.cell
    have g0 := HH.out.fr.free
    have p := HH.out.fp.cell
    go_wp2_with (go_at_call 44; refine (in_any _ _ _ _).mono ?_; rintro e w' ⟨rfl, rfl⟩)
    rw [← HQQ.out]
    refine bodyPost_ret (v := .tuple #[.agg #[.int .i64 B.now, .slice (some ⟨sb, so, none⟩) B.ss.length k0, .slice a1 B.cs.length k1, .slice a2 B.bs.length k2], .int .i64 6]) (by simp [results, Tryz.results20, go_sem, r0]) rfl ?_
    rw [HE.out]
    have hbb := below_sets4 HH.out.hb (show w.heap.size ≤ w.heap.size + 1 + 1 by omega) (.int .i64 B.now) (.slice (some ⟨sb, so, none⟩) B.ss.length k0) (.slice a1 B.cs.length k1) (.slice a2 B.bs.length k2)
    exact ⟨_, _, _, _, _, _, rfl, hbb, (HK.out.below hbb).mono (Nat.zero_le _)⟩
  | false =>
    have HE8 : Hid (appF B A = if six3 A y then (B, 6) else if sev B A y then (B, 7) else (finX B X A y, 0)) := by unfold Hid; rw [HE7.out, h6]; rfl
    clear HE7 h6
    go_step
    go_step
    go_step
    go_step
    go_step
    rw [← HQQ.out]
    exact applySix3_any HK HV HF HKK hi HEK HY HYB HE8 HH hfr hz3 hz8 hz10
end Go.Proofs.YtaogpeebencnoaaGreatDoor
namespace Go.Proofs.YtaogpeebencnoaaGreatDoor
open Go.RowKit Go.Deep

set_option maxRecDepth 20000 in
set_option maxHeartbeats 16000000 in
theorem applyScale_any {lo : Nat} {w W3 w3 W8 w10 W11 : World} {sb so k0 k1 k2 : Nat} {a1 a2 ea : Option Addr} {ec ub uo m0 m1 m2 : Nat} {b1 b2 : Option Addr} {K : Nat} {B X : Sb} {A : Ac} {x : Sv} {n0 : Ct} {v5 v7 v8 v11 v12 v15 v16 v17 : Value} {u18 u19 u20 u21 u22 u23 u24 u25 u26 u27 u28 u29 u30 u31 u32 u33 u34 u35 u36 u37 u38 u39 u40 u41 u42 u43 u44 u45 u46 u47 u48 u49 u50 u51 u52 u53 u54 u55 u56 u57 u58 u59 u60 u61 u62 u63 u64 u65 u66 u67 u68 u69 u70 u71 u72 u73 u74 u75 u76 u77 u78 u79 u80 u81 u82 u83 u84 u85 u86 u87 u88 u89 u90 u91 u92 u93 u94 u95 u96 u97 u98 u99 u100 u101 u102 u103 u104 u105 u106 u107 u108 u109 u110 u111 u112 u113 u114 u115 u116 u117 u118 u119 u120 u121 u122 u123 u124 u125 u126 u127 u128 u129 u130 u131 u132 u133 u134 u135 u136 u137 u138 u139 u140 u141 u142 u143 u144 u145 u146 u147 u148 u149 u150 u151 u152 u153 u154 u155 u156 u157 u158 u159 u160 u161 u162 u163 u164 u165 u166 u167 u168 u169 u170 u171 u172 u173 u174 u175 u176 u177 u178 u179 u180 u181 u182 u183 u184 u185 u186 u187 u188 u189 u190 u191 u192 u193 u194 u195 u196 u197 u198 u199 u200 u201 u202 u203 u204 u205 u206 u207 u208 u209 u210 u211 u212 u213 u214 u215 u216 u217 u218 u219 u220 u221 u222 u223 u224 u225 u226 u227 u228 u229 u230 u231 u232 u233 u234 u235 u236 u237 u238 u239 u240 u241 u242 u243 u244 u245 u246 u247 u248 u249 u250 u251 u252 u253 u254 u255 u256 u257 u258 u259 u260 u261 u262 u263 u264 u265 u266 u267 u268 u269 u270 u271 u272 u273 u274 u275 u276 u277 u278 u279 u280 u281 u282 u283 u284 u285 u286 u287 u288 u289 u290 u291 u292 u293 u294 u295 u296 u297 u298 u299 u300 u301 u302 : Value}
    (HK : Hid (SbAt lo w (.slice (some ⟨sb, so, none⟩) B.ss.length k0) (.slice a1 B.cs.length k1) (.slice a2 B.bs.length k2) B)) (HV : Hid (validB B = true)) (HF : Hid (svF B.ss A.sv = some x)) (HKK : Hid (K = svI B.ss A.sv)) (hi : K < B.ss.length) (HEK : Hid (EndOk B X)) (HQ0 : Hid (actB A = true)) (HE7 : Hid (appF B A = if six2 A (scS A x) (ctL X.cs A.sv x.im).li then (B, 6) else if six3 A (scS A x) then (B, 6) else if sev B A (scS A x) then (B, 7) else (finX B X A (scS A x), 0))) (HH : Hid (Hs7 w #[.int .i64 B.now, .slice (some ⟨sb, so, none⟩) B.ss.length k0, .slice a1 B.cs.length k1, .slice a2 B.bs.length k2] #[.string A.sv, .int .i64 A.sn, .int .i64 A.cr, .int .i64 A.wa, .int .i64 A.cl, .bool A.sc, .slice ea A.es.length ec, .bool A.dp] #[.int .i64 0, .slice none 0 0, .slice none 0 0, .slice none 0 0] #[.int .i64 B.now, .slice (some ⟨ub, uo, none⟩) B.ss.length m0, .slice b1 B.cs.length m1, .slice b2 B.bs.length m2] #[.string x.nm, .int .i64 x.ve, .bool x.gn, .int .i64 x.im, .int .i64 x.wa, .int .i64 x.dn, .int .i64 x.ov, .int .i64 x.nx, .int .i64 x.pr, .int .i64 x.ls, .int .i64 x.ms, .int .i64 x.ld, .int .i64 x.cl] #[.int .i64 n0.li, .int .i64 n0.re, .int .i64 n0.ol, .int .i64 n0.fa, .int .i64 n0.en] w3.heap.size W8.heap.size w10.heap.size W3.heap.size w3.heap.size (.slice (some ⟨ub, uo, none⟩) B.ss.length m0) (.slice b1 B.cs.length m1) (.slice b2 B.bs.length m2) X W11)) (hfr : w.heap.size + 1 + 1 < W3.heap.size) (hz3 : W3.heap.size ≤ w3.heap.size) (hz8 : w3.heap.size < W8.heap.size) (hz10 : W8.heap.size < w10.heap.size) :
    Code.wp Tryz.prog (nthC 13 (Tryz.f20.body.getD .ret)) (bodyPost Tryz.prog Tryz.f20 fun e w' => SbRes w e w' (appF B A).1 (appF B A).2) { tmps := #[.agg #[.int .i64 B.now, .slice (some ⟨sb, so, none⟩) B.ss.length k0, .slice a1 B.cs.length k1, .slice a2 B.bs.length k2], .agg #[.string A.sv, .int .i64 A.sn, .int .i64 A.cr, .int .i64 A.wa, .int .i64 A.cl, .bool A.sc, .slice ea A.es.length ec, .bool A.dp], .pointer (some ⟨w.heap.size, 0, none⟩), .pointer (some ⟨w.heap.size + 1, 0, none⟩), .pointer (some ⟨w.heap.size + 1 + 1, 0, none⟩), v5, .int .i64 K, v7, v8, .pointer (some ⟨w3.heap.size, 0, none⟩), .int .i64 (B.now + 1), v11, v12, .pointer (some ⟨W8.heap.size, 0, none⟩), .pointer (some ⟨w10.heap.size, 0, none⟩), v15, v16, v17, u18, u19, u20, u21, u22, u23, u24, u25, u26, u27, u28, u29, u30, u31, u32, u33, u34, u35, u36, u37, u38, u39, u40, u41, u42, u43, u44, u45, u46, u47, u48, u49, u50, u51, u52, u53, u54, u55, u56, u57, u58, u59, u60, u61, u62, u63, u64, u65, u66, u67, u68, u69, u70, u71, u72, u73, u74, u75, u76, u77, u78, u79, u80, u81, u82, u83, u84, u85, u86, u87, u88, u89, u90, u91, u92, u93, u94, u95, u96, u97, u98, u99, u100, u101, u102, u103, u104, u105, u106, u107, u108, u109, u110, u111, u112, u113, u114, u115, u116, u117, u118, u119, u120, u121, u122, u123, u124, u125, u126, u127, u128, u129, u130, u131, u132, u133, u134, u135, u136, u137, u138, u139, u140, u141, u142, u143, u144, u145, u146, u147, u148, u149, u150, u151, u152, u153, u154, u155, u156, u157, u158, u159, u160, u161, u162, u163, u164, u165, u166, u167, u168, u169, u170, u171, u172, u173, u174, u175, u176, u177, u178, u179, u180, u181, u182, u183, u184, u185, u186, u187, u188, u189, u190, u191, u192, u193, u194, u195, u196, u197, u198, u199, u200, u201, u202, u203, u204, u205, u206, u207, u208, u209, u210, u211, u212, u213, u214, u215, u216, u217, u218, u219, u220, u221, u222, u223, u224, u225, u226, u227, u228, u229, u230, u231, u232, u233, u234, u235, u236, u237, u238, u239, u240, u241, u242, u243, u244, u245, u246, u247, u248, u249, u250, u251, u252, u253, u254, u255, u256, u257, u258, u259, u260, u261, u262, u263, u264, u265, u266, u267, u268, u269, u270, u271, u272, u273, u274, u275, u276, u277, u278, u279, u280, u281, u282, u283, u284, u285, u286, u287, u288, u289, u290, u291, u292, u293, u294, u295, u296, u297, u298, u299, u300, u301, u302], defers := [] } W11 := by
  simp only [nthC, Tryz.f20, Option.getD_some]
  go_step
  go_step
  obtain ⟨y, hy⟩ : ∃ y, y = scS A x := ⟨_, rfl⟩
  have HYB : Hid ((0 ≤ y.wa ∧ y.wa ≤ 10) ∧ (0 ≤ y.ov ∧ y.ov ≤ 10) ∧ (1 ≤ y.nx ∧ y.nx ≤ 1000000) ∧ (0 ≤ A.cr ∧ A.cr ≤ 20)) := by unfold Hid; rw [hy]; exact y_bd HQ0.out (valid_sv HV.out HF.out)
  rw [← hy] at HE7
  have HY := hide hy
  clear hy
  go_cut [] from 18 (fun wx => Hs7 w #[.int .i64 B.now, .slice (some ⟨sb, so, none⟩) B.ss.length k0, .slice a1 B.cs.length k1, .slice a2 B.bs.length k2] #[.string A.sv, .int .i64 A.sn, .int .i64 A.cr, .int .i64 A.wa, .int .i64 A.cl, .bool A.sc, .slice ea A.es.length ec, .bool A.dp] #[.int .i64 0, .slice none 0 0, .slice none 0 0, .slice none 0 0] #[.int .i64 B.now, .slice (some ⟨ub, uo, none⟩) B.ss.length m0, .slice b1 B.cs.length m1, .slice b2 B.bs.length m2] #[.string y.nm, .int .i64 y.ve, .bool y.gn, .int .i64 y.im, .int .i64 y.wa, .int .i64 y.dn, .int .i64 y.ov, .int .i64 y.nx, .int .i64 y.pr, .int .i64 y.ls, .int .i64 y.ms, .int .i64 y.ld, .int .i64 y.cl] #[.int .i64 n0.li, .int .i64 n0.re, .int .i64 n0.ol, .int .i64 n0.fa, .int .i64 n0.en] w3.heap.size W8.heap.size w10.heap.size W3.heap.size w3.heap.size (.slice (some ⟨ub, uo, none⟩) B.ss.length m0) (.slice b1 B.cs.length m1) (.slice b2 B.bs.length m2) X wx)
  case first =>
    have y5 := HH.out.fq.cell 5
    have y3 := HH.out.fq.cell 3
    have y4 := HH.out.fq.cell 4
    have s4 := HH.out.fs.cell 4
    have s12 := HH.out.fs.cell 12
    have sf := HH.out.fs.free
    simp at y5 y3 y4 s4 s12
    obtain ⟨dd, hdd⟩ : ∃ d, d = A.sc := ⟨_, rfl⟩
    rw [← hdd] at y5
    cases dd with
    | false =>
      have HYE : Hid (y = x) := by unfold Hid; rw [HY.out]; unfold scS; rw [← hdd]; rfl
      clear hdd
      go_wp2
      go_meet
      rw [HYE.out]
      exact HH.out
    | true =>
      have HYE : Hid (y = { x with wa := A.wa, cl := A.cl }) := by unfold Hid; rw [HY.out]; unfold scS; rw [← hdd]; rfl
      clear hdd
      have y4b : ∀ u, (W11.setCell ⟨W8.heap.size, 4, none⟩ u).cell? ⟨w.heap.size + 1, 4, none⟩ = some (.int .i64 A.cl) := fun u => (cell_setCell_ne _ _ _ _ (show w.heap.size + 1 ≠ W8.heap.size by omega)).trans y4
      have s12b : ∀ u, ((W11.setCell ⟨W8.heap.size, 4, none⟩ u).cell? ⟨W8.heap.size, 12, none⟩).isSome = true := fun u => by rw [cell_set_ne0 _ _ _ _ _ (by omega), s12]; rfl
      go_wp2
      go_meet
      rw [HYE.out]
      exact (HH.out.setS 4 (.int .i64 A.wa) (by simp) hfr (Nat.le_refl _) hz3 hz8 hz10).setS 12 (.int .i64 A.cl) (by simp) hfr (Nat.le_refl _) hz3 hz8 hz10
  case rest =>
  revert wc
  intro W12 hcut
  replace HH := hide hcut
  clear hcut
  go_step
  exact applyRest_any HK HV HF HKK hi HEK HY HYB HE7 HH hfr hz3 hz8 hz10
end Go.Proofs.YtaogpeebencnoaaGreatDoor
