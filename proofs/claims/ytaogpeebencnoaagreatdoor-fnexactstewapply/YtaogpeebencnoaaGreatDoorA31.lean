import Derived.Test.YtaogpeebencnoaaGreatDoorA26
import Derived.Lib.Overlaps
import Derived.Lib.AppendZeros
import Derived.Deep.RegionLaw
namespace Go.Proofs.YtaogpeebencnoaaGreatDoor
open Go.RowKit Go.Deep

set_option maxRecDepth 100000 in
set_option maxHeartbeats 16000000 in
theorem ins48n {Q : Exit → Act → World → Prop} {W : World} {γ ρ : Nat} {xn sv bv : Value} {ck n : Nat} {L : List Cp} {c : Cp} {u0 u1 u2 u3 u4 u5 u6 u7 u8 u10 u11 u12 u13 u14 u15 u18 u19 u20 u21 u22 u23 u24 u25 u26 u27 u28 u29 u30 u31 u32 u33 u34 u35 u36 u37 u38 u39 u40 u41 u42 u43 u44 u45 u46 u47 u48 u49 u50 u51 u52 u53 u54 u55 u56 u57 u58 u59 u60 u61 u62 u63 u64 u65 u66 u67 u68 u69 u70 u71 u72 u73 u74 u75 u76 u77 u78 u79 u80 u81 u82 u83 u84 u85 u86 u87 u88 u89 u90 u91 u92 u93 u94 u95 u96 u97 u98 u99 u100 u101 u102 u103 u104 u105 u106 u107 u108 u109 u110 u111 u112 u113 u114 u115 u116 u117 u118 u119 u120 u121 u122 u123 u124 u125 u126 u127 u128 u129 u130 u131 u132 u133 u134 u135 u136 u137 u138 u139 u140 u141 u142 u143 u144 u145 u146 u147 u148 u149 u150 u151 u152 u153 u154 u155 u156 u157 u158 u159 u160 u161 u162 u163 u164 u165 u166 u167 u168 u169 u170 u171 u172 u173 u174 u175 u176 u177 u178 u179 u180 u181 u182 u183 u184 u185 u186 u187 u188 u189 u190 u191 u192 u193 u194 u195 u196 u197 u198 u199 u200 u201 u202 u203 u204 u205 u206 u207 u208 u209 u210 u211 u212 u213 u214 u215 u216 u217 u218 u219 u220 u221 u222 u223 u224 u225 u226 u227 u228 u229 u230 u231 u232 u233 u234 u235 u236 u237 u238 u239 u240 u241 u242 u243 u244 u245 u246 u247 u248 u249 u250 u251 u252 u253 u254 u255 u256 u257 u258 u259 u260 u261 u262 u263 u264 u265 u266 u267 u268 u269 u270 u271 u272 u273 u274 u275 u276 u277 u278 u279 u280 u281 u282 u283 u284 u285 u286 u287 u288 u289 u290 u291 u292 u293 u294 u295 u296 u297 u298 u299 u300 u301 u302 : Value}
    (HX : Hid (Box W γ #[xn, sv, .slice none L.length ck, bv])) (HC : Hid (Box W ρ #[.string c.se, .int .i64 c.nu, .int .i64 c.ve, .int .i64 c.im, .int .i64 c.st, .bool c.en, .string c.be])) (HL : Hid (CpsAt 0 W (.slice none L.length ck) L)) (hn : n ≤ L.length) (H00 : Hid (L.length = 0)) (hm : L.length ≤ 1000000) (HZ : Hid (CpSize c))
    (HQ : Hid (∀ (W' : World) (v' : Value) (x259 x260 x261 x262 x263 x264 x265 x266 x267 x268 x269 x270 x271 x272 x273 : Value), Below W.heap.size W W' → CpsOwn W.heap.size W'.heap.size W' v' (L.take n ++ c :: L.drop n) → Q .normal { tmps := #[u0, u1, u2, u3, u4, u5, u6, u7, u8, .pointer (some ⟨γ, 0, none⟩), u10, u11, u12, u13, u14, u15, .pointer (some ⟨ρ, 0, none⟩), .int .i64 n, u18, u19, u20, u21, u22, u23, u24, u25, u26, u27, u28, u29, u30, u31, u32, u33, u34, u35, u36, u37, u38, u39, u40, u41, u42, u43, u44, u45, u46, u47, u48, u49, u50, u51, u52, u53, u54, u55, u56, u57, u58, u59, u60, u61, u62, u63, u64, u65, u66, u67, u68, u69, u70, u71, u72, u73, u74, u75, u76, u77, u78, u79, u80, u81, u82, u83, u84, u85, u86, u87, u88, u89, u90, u91, u92, u93, u94, u95, u96, u97, u98, u99, u100, u101, u102, u103, u104, u105, u106, u107, u108, u109, u110, u111, u112, u113, u114, u115, u116, u117, u118, u119, u120, u121, u122, u123, u124, u125, u126, u127, u128, u129, u130, u131, u132, u133, u134, u135, u136, u137, u138, u139, u140, u141, u142, u143, u144, u145, u146, u147, u148, u149, u150, u151, u152, u153, u154, u155, u156, u157, u158, u159, u160, u161, u162, u163, u164, u165, u166, u167, u168, u169, u170, u171, u172, u173, u174, u175, u176, u177, u178, u179, u180, u181, u182, u183, u184, u185, u186, u187, u188, u189, u190, u191, u192, u193, u194, u195, u196, u197, u198, u199, u200, u201, u202, u203, u204, u205, u206, u207, u208, u209, u210, u211, u212, u213, u214, u215, u216, u217, u218, u219, u220, u221, u222, u223, u224, u225, u226, u227, u228, u229, u230, u231, u232, u233, u234, u235, u236, u237, u238, u239, u240, u241, u242, u243, u244, u245, u246, u247, u248, u249, u250, u251, u252, u253, u254, u255, u256, u257, u258, x259, x260, x261, x262, x263, x264, x265, x266, x267, x268, x269, x270, x271, x272, x273, u274, u275, u276, u277, u278, u279, u280, u281, u282, u283, u284, u285, u286, u287, u288, u289, u290, u291, u292, u293, u294, u295, u296, u297, u298, u299, u300, u301, u302], defers := [] } (W'.setCell ⟨γ, 2, none⟩ v'))) :
    Code.wp Tryz.prog (selC [false, true, false, false, true, false, false, true, true, true, false] (nthC 17 (Tryz.f20.body.getD .ret))) Q { tmps := #[u0, u1, u2, u3, u4, u5, u6, u7, u8, .pointer (some ⟨γ, 0, none⟩), u10, u11, u12, u13, u14, u15, .pointer (some ⟨ρ, 0, none⟩), .int .i64 n, u18, u19, u20, u21, u22, u23, u24, u25, u26, u27, u28, u29, u30, u31, u32, u33, u34, u35, u36, u37, u38, u39, u40, u41, u42, u43, u44, u45, u46, u47, u48, u49, u50, u51, u52, u53, u54, u55, u56, u57, u58, u59, u60, u61, u62, u63, u64, u65, u66, u67, u68, u69, u70, u71, u72, u73, u74, u75, u76, u77, u78, u79, u80, u81, u82, u83, u84, u85, u86, u87, u88, u89, u90, u91, u92, u93, u94, u95, u96, u97, u98, u99, u100, u101, u102, u103, u104, u105, u106, u107, u108, u109, u110, u111, u112, u113, u114, u115, u116, u117, u118, u119, u120, u121, u122, u123, u124, u125, u126, u127, u128, u129, u130, u131, u132, u133, u134, u135, u136, u137, u138, u139, u140, u141, u142, u143, u144, u145, u146, u147, u148, u149, u150, u151, u152, u153, u154, u155, u156, u157, u158, u159, u160, u161, u162, u163, u164, u165, u166, u167, u168, u169, u170, u171, u172, u173, u174, u175, u176, u177, u178, u179, u180, u181, u182, u183, u184, u185, u186, u187, u188, u189, u190, u191, u192, u193, u194, u195, u196, u197, u198, u199, u200, u201, u202, u203, u204, u205, u206, u207, u208, u209, u210, u211, u212, u213, u214, u215, u216, u217, u218, u219, u220, u221, u222, u223, u224, u225, u226, u227, u228, u229, u230, u231, u232, u233, u234, u235, u236, u237, u238, u239, u240, u241, u242, u243, u244, u245, u246, u247, u248, u249, u250, u251, u252, u253, u254, u255, u256, u257, u258, u259, u260, u261, u262, u263, u264, u265, u266, u267, u268, u269, u270, u271, u272, u273, u274, u275, u276, u277, u278, u279, u280, u281, u282, u283, u284, u285, u286, u287, u288, u289, u290, u291, u292, u293, u294, u295, u296, u297, u298, u299, u300, u301, u302], defers := [] } W := by
  simp only [nthC, selC, Tryz.f20, Option.getD_some]
  obtain ⟨i1, hi1, hz1, hy1, hx1⟩ := info_parts Tryz.info92
  have HI1 := hide (And.intro hi1 (And.intro hz1 (And.intro hy1 hx1)))
  have hcap := cps_cap HL.out
  have n0 : (0 : Int) ≤ (n : Int) := by omega
  have n1 : (n : Int) ≤ (ck : Int) := by omega
  have n2 : (n : Int) ≤ (L.length : Int) := by omega
  have n3 : n ≤ ck := by omega
  clear hi1 hz1 hy1 hx1
  have HL1 : Hid ((flatV cpL (L.take n)).length = n * 7) := by unfold Hid; rw [flatV_len cpL_len, List.length_take, Nat.min_eq_left hn]
  have HL2 : Hid ((flatV cpL (L.drop n)).length = (L.length - n) * 7) := by unfold Hid; rw [flatV_len cpL_len, List.length_drop]
  have FIN : ∀ {w5 : World} {v5 : Value}, w5.ownsRow W.heap.size 92 7 v5 (0 + n + 1 + (L.length - n)) ((([] ++ flatV cpL (L.take n)) ++ cpL c) ++ flatV cpL (L.drop n)) → CpsOwn W.heap.size w5.heap.size w5 v5 (L.take n ++ c :: L.drop n) := fun {w5 v5} h => by
    have e1 : (L.take n ++ c :: L.drop n).length = 0 + n + 1 + (L.length - n) := by rw [List.length_append, List.length_cons, List.length_take, List.length_drop]; omega
    have e2 : flatV cpL (L.take n ++ c :: L.drop n) = ([] ++ flatV cpL (L.take n)) ++ cpL c ++ flatV cpL (L.drop n) := by rw [flatV_app, flatV, List.nil_append, List.append_assoc]
    rw [← e1, ← e2] at h
    refine NewRow.Cps (Or.inr h) (by rw [e1]; unfold maxLen; omega) (fun i hi => ?_)
    have hz := HL.out.sizes
    rcases List.mem_append.1 (List.getElem_mem hi) with hm | hm
    · obtain ⟨k, hk, e⟩ := List.getElem_of_mem (List.mem_of_mem_take hm)
      rw [← e]; exact hz k hk
    · rcases List.mem_cons.1 hm with e | hm
      · rw [e]; exact HZ.out
      · obtain ⟨k, hk, e⟩ := List.getElem_of_mem (List.mem_of_mem_drop hm)
        rw [← e]; exact hz k hk
  refine Code.wp_mono NoPanic.imp ?_
  refine wp_region_E (S := HeldP W γ #[xn, sv, .slice none L.length ck, bv] ρ #[.string c.se, .int .i64 c.nu, .int .i64 c.ve, .int .i64 c.im, .int .i64 c.st, .bool c.en, .string c.be]) 15 (by kernel_rfl) (HeldP.drew HX.out HC.out) (fun hHeld => ?_)
  refine wpAnyE_take [2, 4, 5, 8, 13, 15] (i := 1) (v := .pointer (some ⟨γ, 2, none⟩)) rfl (by kernel_rfl) (by kernel_rfl) (by kernel_rfl) (by kernel_rfl) (fun _ _ _ h => h) (Or.inl ⟨by rfl, fun W hW => by obtain ⟨h1, h2, h3⟩ := hW; go_simp⟩) hHeld ?_
  try simp only [Act.put, List.getElem_toArray, List.getElem_cons_succ, List.getElem_cons_zero, List.setIfInBounds_toArray, List.set_cons_zero, List.set_cons_succ]
  refine wpAnyE_take [4, 5, 8, 13, 15] (i := 2) (v := .slice none L.length ck) rfl (by kernel_rfl) (by kernel_rfl) (by kernel_rfl) (by kernel_rfl) (fun _ _ _ h => h) (Or.inl ⟨by rfl, fun W hW => by obtain ⟨h1, h2, h3⟩ := hW; go_simp⟩) hHeld ?_
  try simp only [Act.put, List.getElem_toArray, List.getElem_cons_succ, List.getElem_cons_zero, List.setIfInBounds_toArray, List.set_cons_zero, List.set_cons_succ]
  refine wpAnyE_take [4, 5, 8, 13, 15] (i := 3) (v := .int .i64 n) rfl (by kernel_rfl) (by kernel_rfl) (by kernel_rfl) (by kernel_rfl) (fun _ _ _ h => h) (Or.inl ⟨by rfl, fun W hW => by obtain ⟨h1, h2, h3⟩ := hW; go_simp⟩) hHeld ?_
  try simp only [Act.put, List.getElem_toArray, List.getElem_cons_succ, List.getElem_cons_zero, List.setIfInBounds_toArray, List.set_cons_zero, List.set_cons_succ]
  refine wpAnyE_take [5, 8, 13, 15] (i := 4) (v := .slice none n ck) rfl (by kernel_rfl) (by kernel_rfl) (by kernel_rfl) (by kernel_rfl) (fun _ _ _ h => h) (Or.inl ⟨by rfl, fun W hW => by obtain ⟨h1, h2, h3⟩ := hW; go_simp⟩) hHeld ?_
  try simp only [Act.put, List.getElem_toArray, List.getElem_cons_succ, List.getElem_cons_zero, List.setIfInBounds_toArray, List.set_cons_zero, List.set_cons_succ]
  refine wpAnyE_take [7, 8, 13, 15] (i := 6) (v := .agg #[.string c.se, .int .i64 c.nu, .int .i64 c.ve, .int .i64 c.im, .int .i64 c.st, .bool c.en, .string c.be]) rfl (by kernel_rfl) (by kernel_rfl) (by kernel_rfl) (by kernel_rfl) (fun _ _ _ h => h) (Or.inl ⟨by rfl, fun W hW => by obtain ⟨h1, h2, h3⟩ := hW; go_simp⟩) hHeld ?_
  try simp only [Act.put, List.getElem_toArray, List.getElem_cons_succ, List.getElem_cons_zero, List.setIfInBounds_toArray, List.set_cons_zero, List.set_cons_succ]
  refine wpAnyE_take [10, 12, 13, 15] (i := 9) (v := .pointer (some ⟨γ, 2, none⟩)) rfl (by kernel_rfl) (by kernel_rfl) (by kernel_rfl) (by kernel_rfl) (fun _ _ _ h => h) (Or.inl ⟨by rfl, fun W hW => by obtain ⟨h1, h2, h3⟩ := hW; go_simp⟩) hHeld ?_
  try simp only [Act.put, List.getElem_toArray, List.getElem_cons_succ, List.getElem_cons_zero, List.setIfInBounds_toArray, List.set_cons_zero, List.set_cons_succ]
  refine wpAnyE_take [12, 13, 15] (i := 10) (v := .slice none L.length ck) rfl (by kernel_rfl) (by kernel_rfl) (by kernel_rfl) (by kernel_rfl) (fun _ _ _ h => h) (Or.inl ⟨by rfl, fun W hW => by obtain ⟨h1, h2, h3⟩ := hW; go_simp⟩) hHeld ?_
  try simp only [Act.put, List.getElem_toArray, List.getElem_cons_succ, List.getElem_cons_zero, List.setIfInBounds_toArray, List.set_cons_zero, List.set_cons_succ]
  refine wpAnyE_take [12, 13, 15] (i := 11) (v := .int .i64 n) rfl (by kernel_rfl) (by kernel_rfl) (by kernel_rfl) (by kernel_rfl) (fun _ _ _ h => h) (Or.inl ⟨by rfl, fun W hW => by obtain ⟨h1, h2, h3⟩ := hW; go_simp⟩) hHeld ?_
  try simp only [Act.put, List.getElem_toArray, List.getElem_cons_succ, List.getElem_cons_zero, List.setIfInBounds_toArray, List.set_cons_zero, List.set_cons_succ]
  refine wpAnyE_take [13, 15] (i := 12) (v := .slice none (L.length - n) (ck - n)) rfl (by kernel_rfl) (by kernel_rfl) (by kernel_rfl) (by kernel_rfl) (fun _ _ _ h => h) (Or.inl ⟨by rfl, fun W hW => by obtain ⟨h1, h2, h3⟩ := hW; go_simp⟩) hHeld ?_
  try simp only [Act.put, List.getElem_toArray, List.getElem_cons_succ, List.getElem_cons_zero, List.setIfInBounds_toArray, List.set_cons_zero, List.set_cons_succ]
  refine wpAnyE_two (i := 0) (i' := 7) (by kernel_rfl) rfl rfl (fun K hK => ?_) (fun K hK => ?_)
  · go_simp
    refine hK.out _ _ (fun _ => HeldP.al hHeld _) (fun hHx => ?_)
    clear hHeld
    have hHeld := hHx (by decide)
    clear hK K hHx
    try simp only [Act.put, List.getElem_toArray, List.getElem_cons_succ, List.getElem_cons_zero, List.setIfInBounds_toArray, List.set_cons_zero, List.set_cons_succ]
    refine wpAnyE_two (i := 5) (i' := 7) (by kernel_rfl) rfl rfl (fun K hK => ?_) (fun K hK => ?_)
    · refine step_append_up W (.slice (some ⟨W.heap.size, 0, none⟩) 0 0) 0 [] none n ck (flatV cpL (L.take n)) (by rfl) (.tmp 259) (.tmp 263) 33 (by rfl) 92 i1 (.agg #[.string ⟨#[]⟩, .int .i64 0, .int .i64 0, .int .i64 0, .int .i64 0, .bool false, .string ⟨#[]⟩]) 7 72 Tryz.underlying33 HI1.out.1 HI1.out.2.1 HI1.out.2.2.1 HI1.out.2.2.2 (by rfl) (by decide) (by rfl) (owns_last W _ _ 7 rfl (Nat.le_refl _)) (by rfl) HL1.out (fun _ => by have := H00.out; omega) (below_al _) (fun ad he => by cases he) (cpL_one _) (by unfold maxLen; omega) (by omega) ?_
      intro v3 w3 hown3 hb3 hB3 hk3
      refine hK.out _ _ (fun _ => HeldP.on hHeld hb3) (fun hHx => ?_)
      clear hHeld
      have hHeld := hHx (by decide)
      clear hK K hHx
      try simp only [Act.put, List.getElem_toArray, List.getElem_cons_succ, List.getElem_cons_zero, List.setIfInBounds_toArray, List.set_cons_zero, List.set_cons_succ]
      refine wpAnyE_one (i := 7) (by kernel_rfl) rfl (fun K hK => ?_)
      go_simp
      refine hK.out _ _ (fun _ => HeldP.new hHeld _) (fun hHx => ?_)
      clear hHeld
      have hHeld := hHx (by decide)
      clear hK K hHx
      try simp only [Act.put, List.getElem_toArray, List.getElem_cons_succ, List.getElem_cons_zero, List.setIfInBounds_toArray, List.set_cons_zero, List.set_cons_succ]
      refine wpAnyE_one (i := 8) (by kernel_rfl) rfl (fun K hK => ?_)
      refine step_append_up W v3 (0 + n) ([] ++ flatV cpL (L.take n)) (some ⟨w3.heap.size, 0, none⟩) 1 1 (cpL c) (by rfl) (.tmp 264) (.tmp 266) 33 (by rfl) 92 i1 (.agg #[.string ⟨#[]⟩, .int .i64 0, .int .i64 0, .int .i64 0, .int .i64 0, .bool false, .string ⟨#[]⟩]) 7 72 Tryz.underlying33 HI1.out.1 HI1.out.2.1 HI1.out.2.2.1 HI1.out.2.2.2 (by rfl) (by decide) (by rfl) (ownsB_on hown3 (one_al _ _)) (by rfl) (by rfl) (fun e => by cases e) (bt hB3 (one_al _ _)) (cells_at (Box.new _ _ _ _ rfl) rfl) (cpL_one1 c) (by unfold maxLen; omega) (by omega) ?_
      intro v4 w4 hown4 hb4 hB4 hk4
      refine hK.out _ _ (fun _ => HeldP.on hHeld hb4) (fun hHx => ?_)
      clear hHeld
      have hHeld := hHx (by decide)
      clear hK K hHx
      try simp only [Act.put, List.getElem_toArray, List.getElem_cons_succ, List.getElem_cons_zero, List.setIfInBounds_toArray, List.set_cons_zero, List.set_cons_succ]
      refine wpAnyE_one (i := 13) (by kernel_rfl) rfl (fun K hK => ?_)
      refine step_append_up W v4 (0 + n + 1) (([] ++ flatV cpL (L.take n)) ++ cpL c) none (L.length - n) (ck - n) (flatV cpL (L.drop n)) (by rfl) (.tmp 267) (.tmp 271) 33 (by rfl) 92 i1 (.agg #[.string ⟨#[]⟩, .int .i64 0, .int .i64 0, .int .i64 0, .int .i64 0, .bool false, .string ⟨#[]⟩]) 7 72 Tryz.underlying33 HI1.out.1 HI1.out.2.1 HI1.out.2.2.1 HI1.out.2.2.2 (by rfl) (by decide) (by rfl) hown4 (by rfl) HL2.out (fun _ => by have := H00.out; omega) hB4 (fun ad he => by cases he) (cpL_one _) (by unfold maxLen; omega) (by omega) ?_
      intro v5 w5 hown5 hb5 hB5 hk5
      refine hK.out _ _ (fun _ => HeldP.on hHeld hb5) (fun hHx => ?_)
      clear hHeld
      have hHeld := hHx (by decide)
      clear hK K hHx
      try simp only [Act.put, List.getElem_toArray, List.getElem_cons_succ, List.getElem_cons_zero, List.setIfInBounds_toArray, List.set_cons_zero, List.set_cons_succ]
      refine wpAnyE_take [15] (i := 14) (v := .pointer (some ⟨γ, 2, none⟩)) rfl (by kernel_rfl) (by kernel_rfl) (by kernel_rfl) (by kernel_rfl) (fun _ _ _ h => h) (Or.inl ⟨by rfl, fun W hW => by obtain ⟨h1, h2, h3⟩ := hW; go_simp⟩) hHeld ?_
      try simp only [Act.put, List.getElem_toArray, List.getElem_cons_succ, List.getElem_cons_zero, List.setIfInBounds_toArray, List.set_cons_zero, List.set_cons_succ]
      refine wpAnyE_one (i := 15) (by kernel_rfl) rfl (fun K hK => ?_)
      obtain ⟨sa, sn, sc, rfl⟩ := owns_slice hown5
      have c2 := (HX.out.on hB5).cell 2
      have f2 := (HX.out.on hB5).free
      simp at c2
      go_simp
      refine hK.out _ _ (fun h => absurd rfl h) (fun _ => ?_)
      clear hK K hHeld
      try simp only [Act.put, List.getElem_toArray, List.getElem_cons_succ, List.getElem_cons_zero, List.setIfInBounds_toArray, List.set_cons_zero, List.set_cons_succ]
      refine wpAnyE_done (by kernel_rfl) ?_ _
      exact HQ.out _ _ _ _ _ _ _ _ _ _ _ _ _ _ _ _ _ hB5 (FIN hown5)
    · go_simp
      refine hK.out _ _ (fun _ => HeldP.al hHeld _) (fun hHx => ?_)
      clear hHeld
      have hHeld := hHx (by decide)
      clear hK K hHx
      try simp only [Act.put, List.getElem_toArray, List.getElem_cons_succ, List.getElem_cons_zero, List.setIfInBounds_toArray, List.set_cons_zero, List.set_cons_succ]
      refine wpAnyE_one (i := 5) (by kernel_rfl) rfl (fun K hK => ?_)
      refine step_append_up W (.slice (some ⟨W.heap.size, 0, none⟩) 0 0) 0 [] none n ck (flatV cpL (L.take n)) (by rfl) (.tmp 259) (.tmp 263) 33 (by rfl) 92 i1 (.agg #[.string ⟨#[]⟩, .int .i64 0, .int .i64 0, .int .i64 0, .int .i64 0, .bool false, .string ⟨#[]⟩]) 7 72 Tryz.underlying33 HI1.out.1 HI1.out.2.1 HI1.out.2.2.1 HI1.out.2.2.2 (by rfl) (by decide) (by rfl) (owns_first W _ 7 (Nat.le_refl _) _) (by rfl) HL1.out (fun _ => by have := H00.out; omega) (below_al2 _ _) (fun ad he => by cases he) (cpL_one _) (by unfold maxLen; omega) (by omega) ?_
      intro v3 w3 hown3 hb3 hB3 hk3
      refine hK.out _ _ (fun _ => HeldP.on hHeld hb3) (fun hHx => ?_)
      clear hHeld
      have hHeld := hHx (by decide)
      clear hK K hHx
      try simp only [Act.put, List.getElem_toArray, List.getElem_cons_succ, List.getElem_cons_zero, List.setIfInBounds_toArray, List.set_cons_zero, List.set_cons_succ]
      refine wpAnyE_one (i := 8) (by kernel_rfl) rfl (fun K hK => ?_)
      refine step_append_up W v3 (0 + n) ([] ++ flatV cpL (L.take n)) (some ⟨W.heap.size + 1, 0, none⟩) 1 1 (cpL c) (by rfl) (.tmp 264) (.tmp 266) 33 (by rfl) 92 i1 (.agg #[.string ⟨#[]⟩, .int .i64 0, .int .i64 0, .int .i64 0, .int .i64 0, .bool false, .string ⟨#[]⟩]) 7 72 Tryz.underlying33 HI1.out.1 HI1.out.2.1 HI1.out.2.2.1 HI1.out.2.2.2 (by rfl) (by decide) (by rfl) (hown3) (by rfl) (by rfl) (fun e => by cases e) (hB3) (cells_at (Box.of_block (Box.drew (Box.new _ _ _ _ (by simp))) (hk3 _ (by simp) (by simp [Value.ownBlock]))) rfl) (cpL_one1 c) (by unfold maxLen; omega) (by omega) ?_
      intro v4 w4 hown4 hb4 hB4 hk4
      refine hK.out _ _ (fun _ => HeldP.on hHeld hb4) (fun hHx => ?_)
      clear hHeld
      have hHeld := hHx (by decide)
      clear hK K hHx
      try simp only [Act.put, List.getElem_toArray, List.getElem_cons_succ, List.getElem_cons_zero, List.setIfInBounds_toArray, List.set_cons_zero, List.set_cons_succ]
      refine wpAnyE_one (i := 13) (by kernel_rfl) rfl (fun K hK => ?_)
      refine step_append_up W v4 (0 + n + 1) (([] ++ flatV cpL (L.take n)) ++ cpL c) none (L.length - n) (ck - n) (flatV cpL (L.drop n)) (by rfl) (.tmp 267) (.tmp 271) 33 (by rfl) 92 i1 (.agg #[.string ⟨#[]⟩, .int .i64 0, .int .i64 0, .int .i64 0, .int .i64 0, .bool false, .string ⟨#[]⟩]) 7 72 Tryz.underlying33 HI1.out.1 HI1.out.2.1 HI1.out.2.2.1 HI1.out.2.2.2 (by rfl) (by decide) (by rfl) hown4 (by rfl) HL2.out (fun _ => by have := H00.out; omega) hB4 (fun ad he => by cases he) (cpL_one _) (by unfold maxLen; omega) (by omega) ?_
      intro v5 w5 hown5 hb5 hB5 hk5
      refine hK.out _ _ (fun _ => HeldP.on hHeld hb5) (fun hHx => ?_)
      clear hHeld
      have hHeld := hHx (by decide)
      clear hK K hHx
      try simp only [Act.put, List.getElem_toArray, List.getElem_cons_succ, List.getElem_cons_zero, List.setIfInBounds_toArray, List.set_cons_zero, List.set_cons_succ]
      refine wpAnyE_take [15] (i := 14) (v := .pointer (some ⟨γ, 2, none⟩)) rfl (by kernel_rfl) (by kernel_rfl) (by kernel_rfl) (by kernel_rfl) (fun _ _ _ h => h) (Or.inl ⟨by rfl, fun W hW => by obtain ⟨h1, h2, h3⟩ := hW; go_simp⟩) hHeld ?_
      try simp only [Act.put, List.getElem_toArray, List.getElem_cons_succ, List.getElem_cons_zero, List.setIfInBounds_toArray, List.set_cons_zero, List.set_cons_succ]
      refine wpAnyE_one (i := 15) (by kernel_rfl) rfl (fun K hK => ?_)
      obtain ⟨sa, sn, sc, rfl⟩ := owns_slice hown5
      have c2 := (HX.out.on hB5).cell 2
      have f2 := (HX.out.on hB5).free
      simp at c2
      go_simp
      refine hK.out _ _ (fun h => absurd rfl h) (fun _ => ?_)
      clear hK K hHeld
      try simp only [Act.put, List.getElem_toArray, List.getElem_cons_succ, List.getElem_cons_zero, List.setIfInBounds_toArray, List.set_cons_zero, List.set_cons_succ]
      refine wpAnyE_done (by kernel_rfl) ?_ _
      exact HQ.out _ _ _ _ _ _ _ _ _ _ _ _ _ _ _ _ _ hB5 (FIN hown5)
  · go_simp
    refine hK.out _ _ (fun _ => HeldP.al hHeld _) (fun hHx => ?_)
    clear hHeld
    have hHeld := hHx (by decide)
    clear hK K hHx
    try simp only [Act.put, List.getElem_toArray, List.getElem_cons_succ, List.getElem_cons_zero, List.setIfInBounds_toArray, List.set_cons_zero, List.set_cons_succ]
    refine wpAnyE_one (i := 0) (by kernel_rfl) rfl (fun K hK => ?_)
    go_simp
    refine hK.out _ _ (fun _ => HeldP.al hHeld _) (fun hHx => ?_)
    clear hHeld
    have hHeld := hHx (by decide)
    clear hK K hHx
    try simp only [Act.put, List.getElem_toArray, List.getElem_cons_succ, List.getElem_cons_zero, List.setIfInBounds_toArray, List.set_cons_zero, List.set_cons_succ]
    refine wpAnyE_one (i := 5) (by kernel_rfl) rfl (fun K hK => ?_)
    refine step_append_up W (.slice (some ⟨W.heap.size + 1, 0, none⟩) 0 0) 0 [] none n ck (flatV cpL (L.take n)) (by rfl) (.tmp 259) (.tmp 263) 33 (by rfl) 92 i1 (.agg #[.string ⟨#[]⟩, .int .i64 0, .int .i64 0, .int .i64 0, .int .i64 0, .bool false, .string ⟨#[]⟩]) 7 72 Tryz.underlying33 HI1.out.1 HI1.out.2.1 HI1.out.2.2.1 HI1.out.2.2.2 (by rfl) (by decide) (by rfl) (owns_last _ _ _ 7 (by simp) (by simp)) (by rfl) HL1.out (fun _ => by have := H00.out; omega) (below_al2 _ _) (fun ad he => by cases he) (cpL_one _) (by unfold maxLen; omega) (by omega) ?_
    intro v3 w3 hown3 hb3 hB3 hk3
    refine hK.out _ _ (fun _ => HeldP.on hHeld hb3) (fun hHx => ?_)
    clear hHeld
    have hHeld := hHx (by decide)
    clear hK K hHx
    try simp only [Act.put, List.getElem_toArray, List.getElem_cons_succ, List.getElem_cons_zero, List.setIfInBounds_toArray, List.set_cons_zero, List.set_cons_succ]
    refine wpAnyE_one (i := 8) (by kernel_rfl) rfl (fun K hK => ?_)
    refine step_append_up W v3 (0 + n) ([] ++ flatV cpL (L.take n)) (some ⟨W.heap.size, 0, none⟩) 1 1 (cpL c) (by rfl) (.tmp 264) (.tmp 266) 33 (by rfl) 92 i1 (.agg #[.string ⟨#[]⟩, .int .i64 0, .int .i64 0, .int .i64 0, .int .i64 0, .bool false, .string ⟨#[]⟩]) 7 72 Tryz.underlying33 HI1.out.1 HI1.out.2.1 HI1.out.2.2.1 HI1.out.2.2.2 (by rfl) (by decide) (by rfl) (hown3) (by rfl) (by rfl) (fun e => by cases e) (hB3) (cells_at (Box.of_block (Box.drew ((Box.new W _ _ _ rfl).on (one_al _ _))) (hk3 _ (by simp; omega) (by simp [Value.ownBlock]))) rfl) (cpL_one1 c) (by unfold maxLen; omega) (by omega) ?_
    intro v4 w4 hown4 hb4 hB4 hk4
    refine hK.out _ _ (fun _ => HeldP.on hHeld hb4) (fun hHx => ?_)
    clear hHeld
    have hHeld := hHx (by decide)
    clear hK K hHx
    try simp only [Act.put, List.getElem_toArray, List.getElem_cons_succ, List.getElem_cons_zero, List.setIfInBounds_toArray, List.set_cons_zero, List.set_cons_succ]
    refine wpAnyE_one (i := 13) (by kernel_rfl) rfl (fun K hK => ?_)
    refine step_append_up W v4 (0 + n + 1) (([] ++ flatV cpL (L.take n)) ++ cpL c) none (L.length - n) (ck - n) (flatV cpL (L.drop n)) (by rfl) (.tmp 267) (.tmp 271) 33 (by rfl) 92 i1 (.agg #[.string ⟨#[]⟩, .int .i64 0, .int .i64 0, .int .i64 0, .int .i64 0, .bool false, .string ⟨#[]⟩]) 7 72 Tryz.underlying33 HI1.out.1 HI1.out.2.1 HI1.out.2.2.1 HI1.out.2.2.2 (by rfl) (by decide) (by rfl) hown4 (by rfl) HL2.out (fun _ => by have := H00.out; omega) hB4 (fun ad he => by cases he) (cpL_one _) (by unfold maxLen; omega) (by omega) ?_
    intro v5 w5 hown5 hb5 hB5 hk5
    refine hK.out _ _ (fun _ => HeldP.on hHeld hb5) (fun hHx => ?_)
    clear hHeld
    have hHeld := hHx (by decide)
    clear hK K hHx
    try simp only [Act.put, List.getElem_toArray, List.getElem_cons_succ, List.getElem_cons_zero, List.setIfInBounds_toArray, List.set_cons_zero, List.set_cons_succ]
    refine wpAnyE_take [15] (i := 14) (v := .pointer (some ⟨γ, 2, none⟩)) rfl (by kernel_rfl) (by kernel_rfl) (by kernel_rfl) (by kernel_rfl) (fun _ _ _ h => h) (Or.inl ⟨by rfl, fun W hW => by obtain ⟨h1, h2, h3⟩ := hW; go_simp⟩) hHeld ?_
    try simp only [Act.put, List.getElem_toArray, List.getElem_cons_succ, List.getElem_cons_zero, List.setIfInBounds_toArray, List.set_cons_zero, List.set_cons_succ]
    refine wpAnyE_one (i := 15) (by kernel_rfl) rfl (fun K hK => ?_)
    obtain ⟨sa, sn, sc, rfl⟩ := owns_slice hown5
    have c2 := (HX.out.on hB5).cell 2
    have f2 := (HX.out.on hB5).free
    simp at c2
    go_simp
    refine hK.out _ _ (fun h => absurd rfl h) (fun _ => ?_)
    clear hK K hHeld
    try simp only [Act.put, List.getElem_toArray, List.getElem_cons_succ, List.getElem_cons_zero, List.setIfInBounds_toArray, List.set_cons_zero, List.set_cons_succ]
    refine wpAnyE_done (by kernel_rfl) ?_ _
    exact HQ.out _ _ _ _ _ _ _ _ _ _ _ _ _ _ _ _ _ hB5 (FIN hown5)
theorem ins48o {Q : Exit → Act → World → Prop} {W : World} {γ ρ : Nat} {xn sv bv : Value} {ca : Option Addr} {ck n : Nat} {L : List Cp} {c : Cp} {u0 u1 u2 u3 u4 u5 u6 u7 u8 u10 u11 u12 u13 u14 u15 u18 u19 u20 u21 u22 u23 u24 u25 u26 u27 u28 u29 u30 u31 u32 u33 u34 u35 u36 u37 u38 u39 u40 u41 u42 u43 u44 u45 u46 u47 u48 u49 u50 u51 u52 u53 u54 u55 u56 u57 u58 u59 u60 u61 u62 u63 u64 u65 u66 u67 u68 u69 u70 u71 u72 u73 u74 u75 u76 u77 u78 u79 u80 u81 u82 u83 u84 u85 u86 u87 u88 u89 u90 u91 u92 u93 u94 u95 u96 u97 u98 u99 u100 u101 u102 u103 u104 u105 u106 u107 u108 u109 u110 u111 u112 u113 u114 u115 u116 u117 u118 u119 u120 u121 u122 u123 u124 u125 u126 u127 u128 u129 u130 u131 u132 u133 u134 u135 u136 u137 u138 u139 u140 u141 u142 u143 u144 u145 u146 u147 u148 u149 u150 u151 u152 u153 u154 u155 u156 u157 u158 u159 u160 u161 u162 u163 u164 u165 u166 u167 u168 u169 u170 u171 u172 u173 u174 u175 u176 u177 u178 u179 u180 u181 u182 u183 u184 u185 u186 u187 u188 u189 u190 u191 u192 u193 u194 u195 u196 u197 u198 u199 u200 u201 u202 u203 u204 u205 u206 u207 u208 u209 u210 u211 u212 u213 u214 u215 u216 u217 u218 u219 u220 u221 u222 u223 u224 u225 u226 u227 u228 u229 u230 u231 u232 u233 u234 u235 u236 u237 u238 u239 u240 u241 u242 u243 u244 u245 u246 u247 u248 u249 u250 u251 u252 u253 u254 u255 u256 u257 u258 u259 u260 u261 u262 u263 u264 u265 u266 u267 u268 u269 u270 u271 u272 u273 u274 u275 u276 u277 u278 u279 u280 u281 u282 u283 u284 u285 u286 u287 u288 u289 u290 u291 u292 u293 u294 u295 u296 u297 u298 u299 u300 u301 u302 : Value}
    (HX : Hid (Box W γ #[xn, sv, .slice ca L.length ck, bv])) (HC : Hid (Box W ρ #[.string c.se, .int .i64 c.nu, .int .i64 c.ve, .int .i64 c.im, .int .i64 c.st, .bool c.en, .string c.be])) (HL : Hid (CpsAt 0 W (.slice ca L.length ck) L)) (hn : n ≤ L.length) (hm : L.length ≤ 1000000) (HZ : Hid (CpSize c))
    (HQ : Hid (∀ (W' : World) (v' : Value) (x259 x260 x261 x262 x263 x264 x265 x266 x267 x268 x269 x270 x271 x272 x273 : Value), Below W.heap.size W W' → CpsOwn W.heap.size W'.heap.size W' v' (L.take n ++ c :: L.drop n) → Q .normal { tmps := #[u0, u1, u2, u3, u4, u5, u6, u7, u8, .pointer (some ⟨γ, 0, none⟩), u10, u11, u12, u13, u14, u15, .pointer (some ⟨ρ, 0, none⟩), .int .i64 n, u18, u19, u20, u21, u22, u23, u24, u25, u26, u27, u28, u29, u30, u31, u32, u33, u34, u35, u36, u37, u38, u39, u40, u41, u42, u43, u44, u45, u46, u47, u48, u49, u50, u51, u52, u53, u54, u55, u56, u57, u58, u59, u60, u61, u62, u63, u64, u65, u66, u67, u68, u69, u70, u71, u72, u73, u74, u75, u76, u77, u78, u79, u80, u81, u82, u83, u84, u85, u86, u87, u88, u89, u90, u91, u92, u93, u94, u95, u96, u97, u98, u99, u100, u101, u102, u103, u104, u105, u106, u107, u108, u109, u110, u111, u112, u113, u114, u115, u116, u117, u118, u119, u120, u121, u122, u123, u124, u125, u126, u127, u128, u129, u130, u131, u132, u133, u134, u135, u136, u137, u138, u139, u140, u141, u142, u143, u144, u145, u146, u147, u148, u149, u150, u151, u152, u153, u154, u155, u156, u157, u158, u159, u160, u161, u162, u163, u164, u165, u166, u167, u168, u169, u170, u171, u172, u173, u174, u175, u176, u177, u178, u179, u180, u181, u182, u183, u184, u185, u186, u187, u188, u189, u190, u191, u192, u193, u194, u195, u196, u197, u198, u199, u200, u201, u202, u203, u204, u205, u206, u207, u208, u209, u210, u211, u212, u213, u214, u215, u216, u217, u218, u219, u220, u221, u222, u223, u224, u225, u226, u227, u228, u229, u230, u231, u232, u233, u234, u235, u236, u237, u238, u239, u240, u241, u242, u243, u244, u245, u246, u247, u248, u249, u250, u251, u252, u253, u254, u255, u256, u257, u258, x259, x260, x261, x262, x263, x264, x265, x266, x267, x268, x269, x270, x271, x272, x273, u274, u275, u276, u277, u278, u279, u280, u281, u282, u283, u284, u285, u286, u287, u288, u289, u290, u291, u292, u293, u294, u295, u296, u297, u298, u299, u300, u301, u302], defers := [] } (W'.setCell ⟨γ, 2, none⟩ v'))) :
    Code.wp Tryz.prog (selC [false, true, false, false, true, false, false, true, true, true, false] (nthC 17 (Tryz.f20.body.getD .ret))) Q { tmps := #[u0, u1, u2, u3, u4, u5, u6, u7, u8, .pointer (some ⟨γ, 0, none⟩), u10, u11, u12, u13, u14, u15, .pointer (some ⟨ρ, 0, none⟩), .int .i64 n, u18, u19, u20, u21, u22, u23, u24, u25, u26, u27, u28, u29, u30, u31, u32, u33, u34, u35, u36, u37, u38, u39, u40, u41, u42, u43, u44, u45, u46, u47, u48, u49, u50, u51, u52, u53, u54, u55, u56, u57, u58, u59, u60, u61, u62, u63, u64, u65, u66, u67, u68, u69, u70, u71, u72, u73, u74, u75, u76, u77, u78, u79, u80, u81, u82, u83, u84, u85, u86, u87, u88, u89, u90, u91, u92, u93, u94, u95, u96, u97, u98, u99, u100, u101, u102, u103, u104, u105, u106, u107, u108, u109, u110, u111, u112, u113, u114, u115, u116, u117, u118, u119, u120, u121, u122, u123, u124, u125, u126, u127, u128, u129, u130, u131, u132, u133, u134, u135, u136, u137, u138, u139, u140, u141, u142, u143, u144, u145, u146, u147, u148, u149, u150, u151, u152, u153, u154, u155, u156, u157, u158, u159, u160, u161, u162, u163, u164, u165, u166, u167, u168, u169, u170, u171, u172, u173, u174, u175, u176, u177, u178, u179, u180, u181, u182, u183, u184, u185, u186, u187, u188, u189, u190, u191, u192, u193, u194, u195, u196, u197, u198, u199, u200, u201, u202, u203, u204, u205, u206, u207, u208, u209, u210, u211, u212, u213, u214, u215, u216, u217, u218, u219, u220, u221, u222, u223, u224, u225, u226, u227, u228, u229, u230, u231, u232, u233, u234, u235, u236, u237, u238, u239, u240, u241, u242, u243, u244, u245, u246, u247, u248, u249, u250, u251, u252, u253, u254, u255, u256, u257, u258, u259, u260, u261, u262, u263, u264, u265, u266, u267, u268, u269, u270, u271, u272, u273, u274, u275, u276, u277, u278, u279, u280, u281, u282, u283, u284, u285, u286, u287, u288, u289, u290, u291, u292, u293, u294, u295, u296, u297, u298, u299, u300, u301, u302], defers := [] } W := by
  cases ca with
  | none => exact ins48n HX HC HL hn (hide HL.out.nil) hm HZ HQ
  | some ad =>
    obtain ⟨b, off, th⟩ := ad
    exact ins48 HX HC HL hn hm HZ HQ
end Go.Proofs.YtaogpeebencnoaaGreatDoor
namespace Go.Proofs.YtaogpeebencnoaaGreatDoor
open Go.RowKit Go.Deep

/-! slices.Insert at a row of one's own -/
theorem run_copy_rowK {P : Program} (w : World) (dT sT ty elem : TypeId) (k g o dLen dCap : Nat) (a : Addr) (sLen sCap m : Nat) (cur : Array Value) (t : TypeId) (cs : List Value)
    (hu : P.underlying dT = some (.slice elem)) (hs : (P.info? elem).map (·.size) = some k) (hm : Nat.min sLen dLen = m)
    (hg : w.heap[g]? = some (.cells cur t (0, 0))) (hn : cs.length = m * k)
    (hsrc : ∀ j v, cs[j]? = some v → w.cell? (a.add j) = some v) (hfit : o + cs.length ≤ cur.size) (h1 : ∀ v ∈ cs, v.oneCell' = true) :
    (Builtin.copy_ #[dT, sT] ty #[.slice (some ⟨g, o, none⟩) dLen dCap, .slice (some a) sLen sCap]).run P w =
      .ok (goInt m) (w.setRow g (cur.toList.take o ++ cs ++ cur.toList.drop (o + cs.length)).toArray) := by
  subst hm
  have hl := run_firstCells_some (P := P) w k (Nat.min sLen dLen) a sLen sCap cs hn hsrc
  have hst := run_storeCells_at P g o t cs 0 cur w hg (by simpa using hfit) h1
  simp only [Nat.add_zero] at hst
  cases hq : P.info? elem with
  | none => simp [hq] at hs
  | some i =>
    have hi : i.size = k := by simpa [hq] using hs
    simp [Builtin.copy_, run_underlying hu, Builtin.lenOf, sizeOf, typeInfo, hq, hi, hl, hst]
theorem run_append_zeros_grow {P : Program} (w : World) (t tn ty e : TypeId) (i : TypeInfo) (z : Value) (k kn : IntKind) (ht : P.underlying t = some (.slice e)) (htn : P.underlying tn = some (.int kn)) (hi : P.info? e = some i) (hz : i.zero = some z)
    (b : Addr) (sLen sCap n : Nat) (olds : List Value) (hlo : olds.length = sLen * i.size) (holds : ∀ j v, olds[j]? = some v → w.cell? (b.add j) = some v)
    (h0 : 0 < n) (hs : 0 < i.size) (hg : sCap < sLen + n) (h63 : ((sLen + n : Nat) : Int) ≤ 9223372036854775807) (hfit : Builtin.nextslicecap (sLen + n) sCap * i.bytes ≤ 281474976710656) (h48 : n * i.bytes ≤ 281474976710656) :
    (Builtin.append_ #[t, tn] ty #[.slice (some b) sLen sCap, .int k n]).run P w =
      .ok (.slice (some ⟨w.heap.size, 0, none⟩) (sLen + n) (grownCap w (sLen + n) sCap e))
        (w.drew.alloc (.cells (olds.toArray ++ Builtin.zeroCells z.cells n ++ Builtin.zeroCells z.cells (grownCap w (sLen + n) sCap e - (sLen + n))) e)) := by
  have hn : ¬ (sLen + n ≤ sCap) := by omega
  have hn0 : n ≠ 0 := by omega
  have hw : IntKind.i64.wrap (n : Int) = n := by rw [IntKind.wrap_i64]; omega
  have h63' : ¬ (9223372036854775807 < ((sLen : Int) + (n : Int))) := by omega
  have h48' : ¬ (281474976710656 < Builtin.nextslicecap (sLen + n) sCap * i.bytes) := by omega
  have h48i : ¬ (281474976710656 < (n : Int) * (i.bytes : Int)) := by rw [← Int.natCast_mul]; omega
  have hneg : ¬ ((n : Int) < 0) := by omega
  have hns : ¬ (n * i.size = 0) := Nat.mul_ne_zero hn0 (by omega)
  have hfo := run_firstCells_some (P := P) w.drew i.size sLen b sLen sCap olds hlo (by simpa using holds)
  simp [Builtin.append_, run_underlying ht, run_underlying htn, sizeOf, typeInfo, zeroValue, hi, hz, asInt, asIntOf, hw, hn, hneg, hns, h63', h48', h48i, Question.forced, hfo, newRow, grownCap]
theorem wpList_copy_runK {P : Program} (w : World) {ops : Array Oper} {rest : List Oper} {o : Oper} {a : Act} {Q : Exit → Act → World → Prop} (hgd : o.guard = none) (d s : Operand) (t t' : TypeId)
    (ho : o.op = .call { callee := .builtin .copy, args := #[d, s], argTypes := #[t, t'] }) (v u : Value) (hd : a.eval d = v) (hs : a.eval s = u) {v' : Value} {w' : World}
    (hr : (Builtin.copy_ #[t, t'] o.type #[v, u]).run P w = .ok v' w') (h : wpList P ops Q rest (a.put o.dst v') w') : wpList P ops Q (o :: rest) a w :=
  wpList_plain hgd fun _ hK => by
    unfold Oper.wp execOp
    simp only [ho, resolve, invoke, builtin, Sem.run_bind, Sem.run_pure, Result.andThen_ok, List.map_toArray, List.map_cons, List.map_nil, hd, hs, hr]
    exact hK _ _ h
theorem step_copy_runK {P : Program} {ops : Array Oper} {o : Oper} {a : Act} {w : World} {K : Act → World → Prop} {Q : Exit → Act → World → Prop} {E : Prop}
    (hg : o.guard = none) (d x : Operand) (dT sT : TypeId) (hop : o.op = Op.call { callee := Callee.builtin Builtin.copy, args := #[d, x], argTypes := #[dT, sT] })
    (v u : Value) (hd : a.eval d = v) (hx : a.eval x = u) {v' : Value} {w' : World} (hr : (Builtin.copy_ #[dT, sT] o.type #[v, u]).run P w = .ok v' w') (hK : K (a.put o.dst v') w') :
    if Region.wanted o (yielded ops a.tmps) = true then Oper.wp P o a w K Q else E := by
  have hw : Region.wanted o (yielded ops a.tmps) = true := by simp [Region.wanted, hg]
  rw [if_pos hw]
  unfold Oper.wp
  simp [execOp, hop, resolve, invoke, builtin, hd, hx, hr, Result.andThen]
  exact hK
/-- what two copies leave: the part from i on is moved on by one, then the new one is laid in -/
theorem shift_in {X : Type} (cur xs pv : List X) (k i n m : Nat) (hp : pv.length = m * k) (hx : xs.length = n * k) (hi : i < n) (ht : cur.take (n * k) = xs) (hc : (n + m) * k ≤ cur.length) (c1 : List X) (h1 : c1 = cur.take ((i + m) * k) ++ xs.drop (i * k) ++ cur.drop ((i + m) * k + (xs.drop (i * k)).length)) :
    (c1.take (i * k) ++ pv ++ c1.drop (i * k + pv.length)).take ((n + m) * k) = xs.take (i * k) ++ pv ++ xs.drop (i * k) ∧ (c1.take (i * k) ++ pv ++ c1.drop (i * k + pv.length)).length = cur.length ∧ c1.length = cur.length := by
  have e1 : (i + m) * k = i * k + m * k := Nat.add_mul i m k
  have e2 : (n + m) * k = n * k + m * k := Nat.add_mul n m k
  have e3 : i * k ≤ n * k := Nat.mul_le_mul_right _ (Nat.le_of_lt hi)
  have hdl : (xs.drop (i * k)).length = n * k - i * k := by rw [List.length_drop, hx]
  have ht1 : c1.take (i * k) = xs.take (i * k) := by
    rw [h1, List.append_assoc, List.take_append_of_le_length (by rw [List.length_take]; omega), List.take_take, Nat.min_eq_left (by omega), ← ht, List.take_take, Nat.min_eq_left (by omega)]
  have hd1 : c1.drop (i * k + pv.length) = xs.drop (i * k) ++ cur.drop ((i + m) * k + (xs.drop (i * k)).length) := by
    rw [h1, List.append_assoc, List.drop_append, List.drop_of_length_le (by rw [List.length_take]; omega), List.length_take, Nat.min_eq_left (by omega), hp, e1, Nat.sub_self, List.nil_append, List.drop_zero]
  have hl1 : c1.length = cur.length := by
    rw [h1]
    simp only [List.length_append, List.length_take, List.length_drop]
    omega
  refine ⟨?_, ?_, hl1⟩
  · rw [ht1, hd1, ← List.append_assoc]
    refine List.take_append_of_le_length ?_ |>.trans (List.take_of_length_le ?_)
    · simp only [List.length_append, List.length_take, hdl]; omega
    · simp only [List.length_append, List.length_take, hdl]; omega
  · simp only [List.length_append, List.length_take, List.length_drop]
    omega
theorem lay_in {X : Type} (cur xs pv : List X) (k i n m : Nat) (hp : pv.length = m * k) (hx : xs.length = n * k) (hi : i < n) (ht : cur.take (i * k) = xs.take (i * k)) (hc : (n + m) * k ≤ cur.length) (c1 : List X) (h1 : c1 = cur.take (i * k) ++ pv ++ cur.drop (i * k + pv.length)) :
    (c1.take ((i + m) * k) ++ xs.drop (i * k) ++ c1.drop ((i + m) * k + (xs.drop (i * k)).length)).take ((n + m) * k) = xs.take (i * k) ++ pv ++ xs.drop (i * k) ∧ (c1.take ((i + m) * k) ++ xs.drop (i * k) ++ c1.drop ((i + m) * k + (xs.drop (i * k)).length)).length = cur.length ∧ c1.length = cur.length := by
  have e1 : (i + m) * k = i * k + m * k := Nat.add_mul i m k
  have e2 : (n + m) * k = n * k + m * k := Nat.add_mul n m k
  have e3 : i * k ≤ n * k := Nat.mul_le_mul_right _ (Nat.le_of_lt hi)
  have hdl : (xs.drop (i * k)).length = n * k - i * k := by rw [List.length_drop, hx]
  have hl1 : c1.length = cur.length := by
    rw [h1]
    simp only [List.length_append, List.length_take, List.length_drop]
    omega
  have ht1 : c1.take ((i + m) * k) = xs.take (i * k) ++ pv := by
    rw [h1, ht]
    refine List.take_append_of_le_length ?_ |>.trans (List.take_of_length_le ?_)
    · simp only [List.length_append, List.length_take]; omega
    · simp only [List.length_append, List.length_take]; omega
  refine ⟨?_, ?_, hl1⟩
  · rw [ht1]
    refine List.take_append_of_le_length ?_ |>.trans (List.take_of_length_le ?_)
    · simp only [List.length_append, List.length_take, hdl]; omega
    · simp only [List.length_append, List.length_take, hdl]; omega
  · simp only [List.length_append, List.length_take, List.length_drop]
    omega
theorem flatV_cut {X : Type} {f : X → List Value} {k : Nat} (hk : ∀ x, (f x).length = k) (L : List X) (i : Nat) (hi : i ≤ L.length) : flatV f (L.take i) = (flatV f L).take (i * k) ∧ flatV f (L.drop i) = (flatV f L).drop (i * k) := by
  have e : flatV f L = flatV f (L.take i) ++ flatV f (L.drop i) := by rw [← flatV_app, List.take_append_drop]
  have hl : (flatV f (L.take i)).length = i * k := by rw [flatV_len hk, List.length_take, Nat.min_eq_left hi]
  rw [e]
  exact ⟨(List.take_left' hl).symm, (List.drop_left' hl).symm⟩
theorem insertCps_list (L M : List Cp) (i : Nat) (hi : i ≤ L.length) : flatV cpL (L.take i ++ (M ++ L.drop i)) = (flatV cpL L).take (i * 7) ++ flatV cpL M ++ (flatV cpL L).drop (i * 7) := by
  obtain ⟨h1, h2⟩ := flatV_cut cpL_len L i hi
  rw [flatV_app, flatV_app, h1, h2, List.append_assoc]
set_option maxRecDepth 20000 in
set_option maxHeartbeats 8000000 in
theorem insertCps_any (base i vb : Nat) (v : Value) (L : List Cp) (M : List Cp) (m mc : Nat) (mcur : Array Value) (w : World) (hown : w.ownsRow base 92 7 v L.length (flatV cpL L)) (hi : i ≤ L.length) (hn : L.length ≤ 1048576) (hbase : base ≤ w.heap.size) (hvb : v.ownBlock ≠ some vb) (hv : w.heap[vb]? = some (.cells mcur 92 (0, 0))) (hM : M.length = m) (hm0 : 0 < m) (hmx : m ≤ 1000) (_hmc : m ≤ mc) (hms : mcur.size = mc * 7) (hmt : mcur.toList.take (m * 7) = flatV cpL M) :
    Calls Tryz.prog 133 #[v, .int .i64 i, .slice (some ⟨vb, 0, none⟩) m mc] w fun e w' => ∃ v', e = .returned v' ∧ w'.ownsRow base 92 7 v' (L.length + m) (flatV cpL (L.take i ++ (M ++ L.drop i))) ∧ Below base w w' ∧ w.grownBy w' v.ownBlock ∧ (v'.ownBlock = v.ownBlock ∨ v'.ownBlock = some w.heap.size) := by
  obtain ⟨i0, hin, hz0, hz1, hz2⟩ := info_parts Tryz.info92
  have HI := hide (And.intro hin (And.intro hz0 (And.intro hz1 hz2)))
  have hsz : (Tryz.prog.info? 92).map (·.size) = some 7 := by rw [hin]; simp [hz1]
  have HSZ := hide hsz
  clear hin hz0 hz1 hz2 hsz
  have hvlt : vb < w.heap.size := (Array.getElem?_eq_some_iff.1 hv).1
  have HVL0 : (flatV cpL M).length = m * 7 := by rw [flatV_len cpL_len, hM]
  have HV10 := cpL_one M
  obtain ⟨V, hVM⟩ : ∃ V, V = flatV cpL M := ⟨_, rfl⟩
  rw [← hVM] at hmt HVL0 HV10
  have HVL := hide HVL0
  have HV1 := hide HV10
  have HVM := hide hVM
  have HMS := hide hms
  clear HVL0 HV10 hVM hM
  have HNW : Hid (∀ W : World, W.heap[vb]? = w.heap[vb]? → ∀ j u, V[j]? = some u → W.cell? ((⟨vb, 0, none⟩ : Addr).add j) = some u) := fun W hW j u hu => by
    rw [Go.WideShapes.add_plain, Nat.zero_add]
    unfold World.cell?
    rw [hW, hv]
    rw [← hmt, List.getElem?_take] at hu
    split at hu
    · simpa using hu
    · cases hu
  have HV := hide hv
  have HOW := hide hown
  have HXL : Hid ((flatV cpL L).length = L.length * 7) := flatV_len cpL_len L
  have HPO := hide (insertCps_list L M i hi)
  unfold Hid at HPO
  rw [← HVM.out] at HPO
  replace HPO := hide HPO
  generalize hR : flatV cpL (L.take i ++ (M ++ L.drop i)) = R at HPO ⊢
  clear hR hmt hms
  by_cases hil : i = L.length
  · subst hil
    have HEN : Hid (R = flatV cpL L ++ V) := by
      unfold Hid
      rw [HPO.out, List.take_of_length_le (by rw [HXL.out]; exact Nat.le_refl _), List.drop_of_length_le (by rw [HXL.out]; exact Nat.le_refl _), List.append_nil]
    have hii : (L.length : Int) ≤ L.length := Int.le_refl _
    have hz : ¬ ((L.length : Int) < 0) := by omega
    rcases hown.2 with ⟨hvn, hln⟩ | ⟨g, cap, cur, hvs, hbg, hg, hnc, hcm, hcs, htk⟩
    · subst hvn
      clear hown hvb hv
      rw [hln]
      go_enter Tryz.func133, Tryz.ntmps133
      go_wp2_with (at_builtin; refine wpList_append_own_at _ rfl (.tmp 23) (.tmp 24) 33 rfl base 92 i0 (.agg #[.string ⟨#[]⟩, .int .i64 0, .int .i64 0, .int .i64 0, .int .i64 0, .bool false, .string ⟨#[]⟩]) 7 72 Tryz.underlying33 HI.out.1 HI.out.2.1 HI.out.2.2.1 HI.out.2.2.2 rfl (by decide) _ L.length (flatV cpL L) rfl HOW.out ⟨vb, 0, none⟩ m mc V rfl HVL.out (HNW.out _ rfl) (HV1.out) (by unfold maxLen; omega) (by omega) hbase ?_; intro v' w4 hown4 hgrow4 hnil4 hat4)
      have HO4 : Hid (w4.ownsRow base 92 7 v' (L.length + m) R) := by unfold Hid; rw [HEN.out]; exact hown4
      have HB4 : Hid (Below base w w4 ∧ w.grownBy w4 _ ∧ _) := ⟨ownsB_grown HOW.out hgrow4 hbase, hgrow4, hat4⟩
      clear hown4 hgrow4 hnil4 hat4
      go_wp2
      go_ret
      rw [hln, Nat.zero_add] at HO4
      exact ⟨_, rfl, HO4.out, HB4.out⟩
    · subst hvs
      clear hown hvb hv hg htk hcs
      have hlc : L.length ≤ cap := hnc
      by_cases hcl : cap = L.length
      all_goals
       go_enter Tryz.func133, Tryz.ntmps133
       go_wp2_with (at_builtin; refine wpList_append_own_at _ rfl (.tmp 23) (.tmp 24) 33 rfl base 92 i0 (.agg #[.string ⟨#[]⟩, .int .i64 0, .int .i64 0, .int .i64 0, .int .i64 0, .bool false, .string ⟨#[]⟩]) 7 72 Tryz.underlying33 HI.out.1 HI.out.2.1 HI.out.2.2.1 HI.out.2.2.2 rfl (by decide) _ L.length (flatV cpL L) rfl HOW.out ⟨vb, 0, none⟩ m mc V rfl HVL.out (HNW.out _ rfl) (HV1.out) (by unfold maxLen; omega) (by omega) hbase ?_; intro v' w4 hown4 hgrow4 hnil4 hat4)
       have HO4 : Hid (w4.ownsRow base 92 7 v' (L.length + m) R) := by unfold Hid; rw [HEN.out]; exact hown4
       have HB4 : Hid (Below base w w4 ∧ w.grownBy w4 _ ∧ _) := ⟨ownsB_grown HOW.out hgrow4 hbase, hgrow4, hat4⟩
       clear hown4 hgrow4 hnil4 hat4
       go_wp2
       go_ret
       exact ⟨_, rfl, HO4.out, HB4.out⟩
  have hlt : i < L.length := by omega
  rcases hown.2 with ⟨hvn, hln⟩ | ⟨g, cap, cur, hvs, hbg, hg, hnc, hcm, hcs, htk⟩
  · omega
  subst hvs
  have hgv : g ≠ vb := fun e => hvb (by rw [e]; rfl)
  have HG := hide hg
  have HTK := hide htk
  have HCS := hide hcs
  have hglt : g < w.heap.size := (Array.getElem?_eq_some_iff.1 hg).1
  have HXS : Hid (∀ W : World, (∀ k, W.heap[g]? = w.heap[g]? → k < L.length * 7 → W.cell? ⟨g, k, none⟩ = (flatV cpL L)[k]?)) := fun W k hW hk => by
    unfold World.cell?
    rw [hW, HG.out]
    simp only []
    rw [← HTK.out, List.getElem?_take, if_pos hk]
    simp
  have hii : ¬ ((i : Int) = (L.length : Int)) := by omega
  have hi1 : (i : Int) ≤ (L.length : Int) := by omega
  have hcapI : (cap : Int) ≤ 9223372036854775807 := by unfold maxLen at hcm; omega
  have hw1 : IntKind.wrap .i64 ((L.length : Int) + (m : Int)) = (L.length : Int) + (m : Int) := by rw [IntKind.wrap_i64]; omega
  have hw2 : IntKind.wrap .i64 ((i : Int) + (m : Int)) = (i : Int) + (m : Int) := by rw [IntKind.wrap_i64]; omega
  have hti : ((i : Int) + (m : Int)).toNat = i + m := by omega
  have htn : ((L.length : Int) + (m : Int)).toNat = L.length + m := by omega
  have hb1 : ¬ (cap = i) := by omega
  have hb3 : i ≤ cap := by omega
  clear hown hvb hv hg htk hcs hil
  by_cases hroom : L.length + m ≤ cap
  · have hb4 : ¬ (cap = i + m) := by omega
    have hb5 : i + m ≤ cap := by omega
    have hq1 : (0 : Int) ≤ (i : Int) + (m : Int) := by omega
    have hq2 : (i : Int) + (m : Int) ≤ (L.length : Int) + (m : Int) := by omega
    have hq3 : (i : Int) ≤ (L.length : Int) + (m : Int) := by omega
    have hq4 : i ≤ L.length + m := by omega
    have hb6 : (L.length : Int) + (m : Int) ≤ (cap : Int) := by omega
    have hb7 : i ≤ L.length := by omega
    have hb8 : ¬ ((cap : Int) < (L.length : Int) + (m : Int)) := by omega
    have hfz : w.frozen? ⟨vb, 0, none⟩ = false := by unfold World.frozen?; rw [HV.out]; simp
    have hfe : w.frozen? ⟨vb, mcur.size, none⟩ = false := by unfold World.frozen?; rw [HV.out]; try simp
    have hsa : w.shape? vb = some (92, mcur.size) := by unfold World.shape?; rw [HV.out]
    have hsb : w.shape? g = some (92, cur.size) := by unfold World.shape?; rw [HG.out]
    have hov : ∀ o lb cb, (callFunc 142 #[.slice (some ⟨vb, 0, none⟩) m mc, .slice (some ⟨g, o, none⟩) lb cb]).run Tryz.prog w = .ok (.value (.bool false)) w := fun o lb cb => by
      rw [run_callFunc_extern Tryz.func142 (by kernel_rfl) (by kernel_rfl) (by kernel_rfl) (e := Extern.SlicesOverlaps.overlaps #[33, 33] #[4]) (by kernel_rfl),
        Lib.run_overlaps_apart w 33 4 92 Tryz.underlying33 7 (fun w => by simp [sizeOf, typeInfo, HI.out.1, HI.out.2.2.1]) ⟨vb, 0, none⟩ ⟨g, o, none⟩ m mc lb cb (fun e => hgv e.symm) _ _ mcur.size cur.size hsa hsb (by rw [HCS.out]; omega) hfz hfe]
      rfl
    have hdl : ((flatV cpL L).drop (i * 7)).length = (L.length - i) * 7 := by rw [List.length_drop, HXL.out, Nat.sub_mul]
    have hfit : (i + m) * 7 + ((flatV cpL L).drop (i * 7)).length ≤ cur.size := by rw [hdl, HCS.out]; omega
    have hct : cur.toList.length = cap * 7 := (Array.length_toList (xs := cur)).trans HCS.out
    have hcp1 : ∀ ty dc sc, (Builtin.copy_ #[33, 33] ty #[.slice (some ⟨g, (i + m) * 7, none⟩) (L.length + m - (i + m)) dc, .slice (some ⟨g, i * 7, none⟩) (L.length + m - i) sc]).run Tryz.prog w.drew = .ok (goInt (L.length - i : Nat)) (w.drew.setRow g (cur.toList.take ((i + m) * 7) ++ (flatV cpL L).drop (i * 7) ++ cur.toList.drop ((i + m) * 7 + ((flatV cpL L).drop (i * 7)).length)).toArray) := fun ty dc sc =>
      run_copy_rowK w.drew _ _ ty 92 7 g ((i + m) * 7) _ dc ⟨g, i * 7, none⟩ _ sc (L.length - i) cur 92 _ Tryz.underlying33 HSZ.out (by show min _ _ = _; omega) HG.out hdl (fun j u hj => by
        rw [Go.WideShapes.add_plain, HXS.out w.drew _ rfl (by have := (List.getElem?_eq_some_iff.1 hj).1; rw [hdl] at this; omega)]
        rwa [List.getElem?_drop] at hj) hfit (fun u hu => cpL_one _ u (List.mem_of_mem_drop hu))
    obtain ⟨C1, hC1⟩ : ∃ C1, C1 = cur.toList.take ((i + m) * 7) ++ (flatV cpL L).drop (i * 7) ++ cur.toList.drop ((i + m) * 7 + ((flatV cpL L).drop (i * 7)).length) := ⟨_, rfl⟩
    obtain ⟨hs1, hs2, hs3⟩ := shift_in cur.toList (flatV cpL L) V 7 i L.length m HVL.out HXL.out hlt HTK.out (by rw [hct]; omega) C1 hC1
    rw [← hC1] at hcp1
    obtain ⟨C2, hC2⟩ : ∃ C2, C2 = C1.take (i * 7) ++ V ++ C1.drop (i * 7 + V.length) := ⟨_, rfl⟩
    have hcp2 : ∀ (W : World), W.heap[g]? = some (.cells C1.toArray 92 (0, 0)) → W.heap[vb]? = w.heap[vb]? → ∀ ty dc, (Builtin.copy_ #[33, 33] ty #[.slice (some ⟨g, i * 7, none⟩) (L.length + m - i) dc, .slice (some ⟨vb, 0, none⟩) m mc]).run Tryz.prog W = .ok (goInt (m : Nat)) (W.setRow g C2.toArray) := fun W h1 h2 ty dc => by
      rw [hC2]
      exact run_copy_rowK W _ _ ty 92 7 g (i * 7) _ dc ⟨vb, 0, none⟩ m mc m C1.toArray 92 _ Tryz.underlying33 HSZ.out (by show min _ _ = _; omega) h1 HVL.out (HNW.out W h2) (by rw [List.size_toArray, hs3, hct]; rw [HVL.out]; omega) (HV1.out)
    rw [← hC2] at hs1 hs2
    have HS := hide (And.intro hs1 (And.intro hs2 hs3))
    have HH1 : Hid ((w.drew.setRow g C1.toArray).heap[g]? = some (.cells C1.toArray 92 (0, 0))) := setRow_heap w.drew g cur _ _ _ HG.out
    have HH2 : Hid ((w.drew.setRow g C1.toArray).heap[vb]? = w.heap[vb]?) := setRow_other w.drew g vb _ (fun e => hgv e.symm)
    clear hC1 hC2 hs1 hs2 hs3 hdl hfit hsa hsb hfz hfe
    go_enter Tryz.func133, Tryz.ntmps133
    go_wp2_with (simp only [hov])
    clear hov
    go_region_law (refine step_copy_runK rfl (.tmp 73) (.tmp 76) 33 33 rfl _ _ (by simp [Act.eval, Act.put]) (by simp [Act.eval, Act.put]) (hcp1 _ _ _) ?_)
    have hcp3 := hcp2 _ HH1.out HH2.out
    clear hcp1 hcp2
    go_wp2_with (simp only [hcp3])
    clear hcp3
    go_ret
    have hb : Below base w ((w.drew.setRow g C1.toArray).setRow g C2.toArray) := by
      rw [setRow_setRow]
      exact ⟨rfl, rfl, rfl, by simp [World.setRow], fun k hk => setRow_other w.drew g k _ (by omega)⟩
    have hgw : w.grownBy ((w.drew.setRow g C1.toArray).setRow g C2.toArray) (some g) := by
      rw [setRow_setRow]
      exact ⟨rfl, rfl, rfl, by simp [World.setRow], fun k _ hk => setRow_other w.drew g k _ (fun e => hk (by rw [e]))⟩
    exact ⟨_, rfl, ⟨by rw [HPO.out]; simp only [List.length_append, List.length_take, List.length_drop, HXL.out, HVL.out]; omega, Or.inr ⟨g, cap, _, rfl, hbg, setRow_heap _ g _ _ _ _ HH1.out, by omega, hcm, by rw [List.size_toArray, HS.out.2.1, Array.length_toList (xs := cur)]; exact HCS.out, by rw [HPO.out]; exact HS.out.1⟩⟩, hb, hgw, Or.inl rfl⟩
  · have hgr : cap < i + (L.length + m - i) := by omega
    have hb8 : (cap : Int) < (L.length : Int) + (m : Int) := by omega
    have hw3 : IntKind.wrap .i64 ((L.length : Int) + (m : Int) - (i : Int)) = ((L.length + m - i : Nat) : Int) := by rw [IntKind.wrap_i64]; omega
    have hie : i + (L.length + m - i) = L.length + m := by omega
    have hap := fun ty => run_append_zeros_grow (P := Tryz.prog) w 33 3 ty 92 i0 (.agg #[.string ⟨#[]⟩, .int .i64 0, .int .i64 0, .int .i64 0, .int .i64 0, .bool false, .string ⟨#[]⟩]) .i64 .i64 Tryz.underlying33 Tryz.underlying3 HI.out.1 HI.out.2.1 ⟨g, 0, none⟩ i cap (L.length + m - i) ((flatV cpL L).take (i * 7)) (by rw [List.length_take, HXL.out, HI.out.2.2.1]; omega) (fun j u hj => by
        rw [List.getElem?_take] at hj
        split at hj
        · rw [Go.WideShapes.add_plain, Nat.zero_add, HXS.out w _ rfl (by omega)]
          exact hj
        · cases hj) (by omega) (by rw [HI.out.2.2.1]; omega) hgr (by omega) (growslice_fits hgr (by rw [HI.out.2.2.2]; omega)) (by rw [HI.out.2.2.2]; omega)
    rw [hie] at hap
    have hcg := grownCap_ge w (L.length + m) cap 92
    have hcx := grownCap_le_maxLen w (L.length + m) cap 92 (by unfold maxLen; omega)
    generalize grownCap w (L.length + m) cap 92 = cap1 at hap hcg hcx
    have hzc : ∀ n, (Builtin.zeroCells (.agg #[.string ⟨#[]⟩, .int .i64 0, .int .i64 0, .int .i64 0, .int .i64 0, .bool false, .string ⟨#[]⟩] : Value).cells n).size = n * 7 := fun n => size_zeroCells _ n
    obtain ⟨C0, hC0⟩ : ∃ C0 : List Value, C0 = (((flatV cpL L).take (i * 7)).toArray ++ Builtin.zeroCells (.agg #[.string ⟨#[]⟩, .int .i64 0, .int .i64 0, .int .i64 0, .int .i64 0, .bool false, .string ⟨#[]⟩] : Value).cells (L.length + m - i) ++ Builtin.zeroCells (.agg #[.string ⟨#[]⟩, .int .i64 0, .int .i64 0, .int .i64 0, .int .i64 0, .bool false, .string ⟨#[]⟩] : Value).cells (cap1 - (L.length + m))).toList := ⟨_, rfl⟩
    have hC0l : C0.length = cap1 * 7 := by
      rw [hC0, Array.length_toList]
      simp only [Array.size_append, List.size_toArray, hzc, List.length_take, HXL.out]
      omega
    have hC0t : C0.take (i * 7) = (flatV cpL L).take (i * 7) := by
      rw [hC0]
      simp only [Array.toList_append, List.append_assoc]
      refine (List.take_append_of_le_length ?_).trans (List.take_of_length_le ?_)
      · simp only [List.length_take, HXL.out]; omega
      · simp only [List.length_take]; omega
    have hC0a : ((flatV cpL L).take (i * 7)).toArray ++ Builtin.zeroCells (.agg #[.string ⟨#[]⟩, .int .i64 0, .int .i64 0, .int .i64 0, .int .i64 0, .bool false, .string ⟨#[]⟩] : Value).cells (L.length + m - i) ++ Builtin.zeroCells (.agg #[.string ⟨#[]⟩, .int .i64 0, .int .i64 0, .int .i64 0, .int .i64 0, .bool false, .string ⟨#[]⟩] : Value).cells (cap1 - (L.length + m)) = C0.toArray := by rw [hC0]
    rw [hC0a] at hap
    obtain ⟨W0, hW0⟩ : ∃ W0, W0 = w.drew.alloc (.cells C0.toArray 92) := ⟨_, rfl⟩
    rw [← hW0] at hap
    have hZg : W0.heap[w.heap.size]? = some (.cells C0.toArray 92 (0, 0)) := by rw [hW0]; exact heap_alloc_new w.drew _
    have hZo : ∀ k, k < w.heap.size → W0.heap[k]? = w.heap[k]? := fun k hk => by rw [hW0]; exact heap_alloc_old w.drew _ hk
    obtain ⟨C1, hC1⟩ : ∃ C1, C1 = C0.take (i * 7) ++ V ++ C0.drop (i * 7 + V.length) := ⟨_, rfl⟩
    obtain ⟨hs1, hs2, hs3⟩ := lay_in C0 (flatV cpL L) V 7 i L.length m HVL.out HXL.out hlt hC0t (by rw [hC0l]; omega) C1 hC1
    have hcp2 : ∀ ty dc, (Builtin.copy_ #[33, 33] ty #[.slice (some ⟨w.heap.size, i * 7, none⟩) (L.length + m - i) dc, .slice (some ⟨vb, 0, none⟩) m mc]).run Tryz.prog W0 = .ok (goInt (m : Nat)) (W0.setRow w.heap.size C1.toArray) := fun ty dc => by
      rw [hC1]
      exact run_copy_rowK W0 _ _ ty 92 7 w.heap.size (i * 7) _ dc ⟨vb, 0, none⟩ m mc m C0.toArray 92 _ Tryz.underlying33 HSZ.out (by show min _ _ = _; omega) hZg HVL.out (HNW.out W0 (hZo vb hvlt)) (by rw [List.size_toArray, hC0l]; rw [HVL.out]; omega) (HV1.out)
    have hdl : ((flatV cpL L).drop (i * 7)).length = (L.length - i) * 7 := by rw [List.length_drop, HXL.out, Nat.sub_mul]
    have hZ1 : (W0.setRow w.heap.size C1.toArray).heap[w.heap.size]? = some (.cells C1.toArray 92 (0, 0)) := setRow_heap W0 _ _ _ _ _ hZg
    have hZ2 : ∀ k, k < w.heap.size → (W0.setRow w.heap.size C1.toArray).heap[k]? = w.heap[k]? := fun k hk => (setRow_other W0 _ k _ (by omega)).trans (hZo k hk)
    obtain ⟨C2, hC2⟩ : ∃ C2, C2 = C1.take ((i + m) * 7) ++ (flatV cpL L).drop (i * 7) ++ C1.drop ((i + m) * 7 + ((flatV cpL L).drop (i * 7)).length) := ⟨_, rfl⟩
    have hcp1 : ∀ ty dc sc, (Builtin.copy_ #[33, 33] ty #[.slice (some ⟨w.heap.size, (i + m) * 7, none⟩) (L.length + m - (i + m)) dc, .slice (some ⟨g, i * 7, none⟩) (L.length - i) sc]).run Tryz.prog (W0.setRow w.heap.size C1.toArray).drew = .ok (goInt (L.length - i : Nat)) ((W0.setRow w.heap.size C1.toArray).drew.setRow w.heap.size C2.toArray) := fun ty dc sc => by
      rw [hC2]
      exact run_copy_rowK (W0.setRow w.heap.size C1.toArray).drew _ _ ty 92 7 w.heap.size ((i + m) * 7) _ dc ⟨g, i * 7, none⟩ _ sc (L.length - i) C1.toArray 92 _ Tryz.underlying33 HSZ.out (by show min _ _ = _; omega) hZ1 hdl (fun j u hj => by
        rw [Go.WideShapes.add_plain, HXS.out (W0.setRow w.heap.size C1.toArray).drew _ (hZ2 g hglt) (by have := (List.getElem?_eq_some_iff.1 hj).1; rw [hdl] at this; omega)]
        rwa [List.getElem?_drop] at hj) (by rw [hdl, List.size_toArray, hs3, hC0l]; omega) (fun u hu => cpL_one _ u (List.mem_of_mem_drop hu))
    rw [← hC2] at hs1 hs2
    have HS := hide (And.intro hs1 (And.intro hs2 hC0l))
    have HZ1 := hide hZ1
    have HZ2 := hide hZ2
    have hb9 : ¬ (cap1 = i) := by omega
    have hq1 : (0 : Int) ≤ (i : Int) + (m : Int) := by omega
    have hq2 : (i : Int) + (m : Int) ≤ (L.length : Int) + (m : Int) := by omega
    have hq3 : (i : Int) ≤ (L.length : Int) + (m : Int) := by omega
    have hq4 : i ≤ L.length + m := by omega
    have hb10 : ¬ (cap1 = i + m) := by omega
    have hb11 : i + m ≤ cap1 := by omega
    have hsW : W0.heap.size = w.heap.size + 1 := by rw [hW0]; simp
    have hWp : W0.os = w.os ∧ W0.tape = w.tape ∧ W0.output = w.output := by rw [hW0]; exact ⟨rfl, rfl, rfl⟩
    have HWP := hide hWp
    clear hC1 hC2 hs1 hs2 hs3 hC0 hC0l hC0t hC0a hW0 hZg hZo hZ1 hZ2 hdl hzc hWp
    go_enter Tryz.func133, Tryz.ntmps133
    go_wp2_with (at_builtin; first
      | (refine Lib.wpList_append_run _ rfl (.tmp 34) (.tmp 39) 33 3 rfl _ _ rfl rfl _ _ (hap _) ?_)
      | (refine wpList_copy_runK _ rfl (.tmp 43) (.tmp 44) 33 33 rfl _ _ rfl rfl (hcp2 _ _) ?_))
    go_region_law (refine step_copy_runK rfl (.tmp 50) (.tmp 53) 33 33 rfl _ _ (by simp [Act.eval, Act.put]) (by simp [Act.eval, Act.put]) (hcp1 _ _ _) ?_)
    clear hcp1 hcp2 hap
    go_wp2
    go_ret
    have hb : Below base w ((W0.setRow w.heap.size C1.toArray).drew.setRow w.heap.size C2.toArray) :=
      ⟨HWP.out.1, HWP.out.2.1, HWP.out.2.2, by simp [World.setRow]; omega, fun k hk => (setRow_other _ _ k _ (by omega)).trans (HZ2.out k (by omega))⟩
    exact ⟨_, rfl, ⟨by rw [HPO.out]; simp only [List.length_append, List.length_take, List.length_drop, HXL.out, HVL.out]; omega, Or.inr ⟨w.heap.size, cap1, _, rfl, hbase, setRow_heap _ _ _ _ _ _ HZ1.out, hcg, hcx, by rw [List.size_toArray, HS.out.2.1, HS.out.2.2], by rw [HPO.out]; exact HS.out.1⟩⟩, hb, ⟨HWP.out.1, HWP.out.2.1, HWP.out.2.2, by simp [World.setRow]; omega, fun k hk _ => (setRow_other _ _ k _ (by omega)).trans (HZ2.out k (by omega))⟩, Or.inr rfl⟩
end Go.Proofs.YtaogpeebencnoaaGreatDoor
