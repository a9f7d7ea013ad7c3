import Derived.Test.YtaogpeebencnoaaGreatDoorA29
namespace Go.Proofs.YtaogpeebencnoaaGreatDoor
open Go.RowKit Go.Deep

theorem tw_len {X : Type} {p : X → Bool} {L : List X} {k : Nat} (hk : k ≤ L.length) (h1 : ∀ j (h : j < L.length), j < k → p L[j] = true) (h2 : ∀ h : k < L.length, p (L[k]'h) = false) : (L.takeWhile p).length = k := by
  induction L generalizing k with
  | nil => simp at hk; simp [hk]
  | cons x r ih =>
    cases k with
    | zero =>
      have := h2 (by simp)
      simp at this
      simp [this]
    | succ k =>
      have h0 := h1 0 (by simp) (by omega)
      simp at h0
      rw [List.takeWhile_cons, h0, if_pos rfl, List.length_cons, ih (k := k) (by simpa using hk) (fun j hj hjk => by have := h1 (j + 1) (by simpa using hj) (by omega); simpa using this) (fun h => by have := h2 (by simpa using h); simpa using this)]

set_option maxRecDepth 100000 in
set_option maxHeartbeats 16000000 in
theorem ahead8 {Q : Exit → Act → World → Prop} {W : World} {γ ρ : Nat} {xn sv bv : Value} {ca : Option Addr} {ck : Nat} {L : List Cp} {c : Cp} {u0 u1 u2 u3 u4 u5 u6 u7 u8 u10 u11 u12 u13 u14 u15 u18 u19 u20 u21 u22 u23 u24 u25 u26 u27 u28 u29 u30 u31 u32 u33 u34 u35 u36 u37 u38 u39 u40 u41 u42 u43 u44 u45 u46 u47 u48 u49 u50 u51 u52 u53 u54 u55 u56 u57 u58 u59 u60 u61 u62 u63 u64 u65 u66 u67 u68 u69 u70 u71 u72 u73 u74 u75 u76 u77 u78 u79 u80 u81 u82 u83 u84 u85 u86 u87 u88 u89 u90 u91 u92 u93 u94 u95 u96 u97 u98 u99 u100 u101 u102 u103 u104 u105 u106 u107 u108 u109 u110 u111 u112 u113 u114 u115 u116 u117 u118 u119 u120 u121 u122 u123 u124 u125 u126 u127 u128 u129 u130 u131 u132 u133 u134 u135 u136 u137 u138 u139 u140 u141 u142 u143 u144 u145 u146 u147 u148 u149 u150 u151 u152 u153 u154 u155 u156 u157 u158 u159 u160 u161 u162 u163 u164 u165 u166 u167 u168 u169 u170 u171 u172 u173 u174 u175 u176 u177 u178 u179 u180 u181 u182 u183 u184 u185 u186 u187 u188 u189 u190 u191 u192 u193 u194 u195 u196 u197 u198 u199 u200 u201 u202 u203 u204 u205 u206 u207 u208 u209 u210 u211 u212 u213 u214 u215 u216 u217 u218 u219 u220 u221 u222 u223 u224 u225 u226 u227 u228 u229 u230 u231 u232 u233 u234 u235 u236 u237 u238 u239 u240 u241 u242 u243 u244 u245 u246 u247 u248 u249 u250 u251 u252 u253 u254 u255 u256 u257 u258 u259 u260 u261 u262 u263 u264 u265 u266 u267 u268 u269 u270 u271 u272 u273 u274 u275 u276 u277 u278 u279 u280 u281 u282 u283 u284 u285 u286 u287 u288 u289 u290 u291 u292 u293 u294 u295 u296 u297 u298 u299 u300 u301 u302 : Value}
    (HX : Hid (Box W γ #[xn, sv, .slice ca L.length ck, bv])) (HC : Hid (Box W ρ #[.string c.se, .int .i64 c.nu, .int .i64 c.ve, .int .i64 c.im, .int .i64 c.st, .bool c.en, .string c.be])) (HL : Hid (CpsAt 0 W (.slice ca L.length ck) L)) (hm : L.length ≤ 1000000)
    (HQ : Hid (∀ (W' : World) (x243 x244 x245 x246 x247 x248 x249 x250 x251 x252 x253 x254 x255 x256 x257 x258 : Value), Below W.heap.size W W' → Q (.exit 8) { tmps := #[u0, u1, u2, u3, u4, u5, u6, u7, u8, .pointer (some ⟨γ, 0, none⟩), u10, u11, u12, u13, u14, u15, .pointer (some ⟨ρ, 0, none⟩), .int .i64 (L.takeWhile fun d => aheadB d c).length, u18, u19, u20, u21, u22, u23, u24, u25, u26, u27, u28, u29, u30, u31, u32, u33, u34, u35, u36, u37, u38, u39, u40, u41, u42, u43, u44, u45, u46, u47, u48, u49, u50, u51, u52, u53, u54, u55, u56, u57, u58, u59, u60, u61, u62, u63, u64, u65, u66, u67, u68, u69, u70, u71, u72, u73, u74, u75, u76, u77, u78, u79, u80, u81, u82, u83, u84, u85, u86, u87, u88, u89, u90, u91, u92, u93, u94, u95, u96, u97, u98, u99, u100, u101, u102, u103, u104, u105, u106, u107, u108, u109, u110, u111, u112, u113, u114, u115, u116, u117, u118, u119, u120, u121, u122, u123, u124, u125, u126, u127, u128, u129, u130, u131, u132, u133, u134, u135, u136, u137, u138, u139, u140, u141, u142, u143, u144, u145, u146, u147, u148, u149, u150, u151, u152, u153, u154, u155, u156, u157, u158, u159, u160, u161, u162, u163, u164, u165, u166, u167, u168, u169, u170, u171, u172, u173, u174, u175, u176, u177, u178, u179, u180, u181, u182, u183, u184, u185, u186, u187, u188, u189, u190, u191, u192, u193, u194, u195, u196, u197, u198, u199, u200, u201, u202, u203, u204, u205, u206, u207, u208, u209, u210, u211, u212, u213, u214, u215, u216, u217, u218, u219, u220, u221, u222, u223, u224, u225, u226, u227, u228, u229, u230, u231, u232, u233, u234, u235, u236, u237, u238, u239, u240, u241, u242, x243, x244, x245, x246, x247, x248, x249, x250, x251, x252, x253, x254, x255, x256, x257, x258, u259, u260, u261, u262, u263, u264, u265, u266, u267, u268, u269, u270, u271, u272, u273, u274, u275, u276, u277, u278, u279, u280, u281, u282, u283, u284, u285, u286, u287, u288, u289, u290, u291, u292, u293, u294, u295, u296, u297, u298, u299, u300, u301, u302], defers := [] } W')) :
    Code.wp Tryz.prog (selC [false, true, false, false, true, false, false, true, true, false, false] (nthC 17 (Tryz.f20.body.getD .ret))) Q { tmps := #[u0, u1, u2, u3, u4, u5, u6, u7, u8, .pointer (some ⟨γ, 0, none⟩), u10, u11, u12, u13, u14, u15, .pointer (some ⟨ρ, 0, none⟩), .int .i64 0, u18, u19, u20, u21, u22, u23, u24, u25, u26, u27, u28, u29, u30, u31, u32, u33, u34, u35, u36, u37, u38, u39, u40, u41, u42, u43, u44, u45, u46, u47, u48, u49, u50, u51, u52, u53, u54, u55, u56, u57, u58, u59, u60, u61, u62, u63, u64, u65, u66, u67, u68, u69, u70, u71, u72, u73, u74, u75, u76, u77, u78, u79, u80, u81, u82, u83, u84, u85, u86, u87, u88, u89, u90, u91, u92, u93, u94, u95, u96, u97, u98, u99, u100, u101, u102, u103, u104, u105, u106, u107, u108, u109, u110, u111, u112, u113, u114, u115, u116, u117, u118, u119, u120, u121, u122, u123, u124, u125, u126, u127, u128, u129, u130, u131, u132, u133, u134, u135, u136, u137, u138, u139, u140, u141, u142, u143, u144, u145, u146, u147, u148, u149, u150, u151, u152, u153, u154, u155, u156, u157, u158, u159, u160, u161, u162, u163, u164, u165, u166, u167, u168, u169, u170, u171, u172, u173, u174, u175, u176, u177, u178, u179, u180, u181, u182, u183, u184, u185, u186, u187, u188, u189, u190, u191, u192, u193, u194, u195, u196, u197, u198, u199, u200, u201, u202, u203, u204, u205, u206, u207, u208, u209, u210, u211, u212, u213, u214, u215, u216, u217, u218, u219, u220, u221, u222, u223, u224, u225, u226, u227, u228, u229, u230, u231, u232, u233, u234, u235, u236, u237, u238, u239, u240, u241, u242, u243, u244, u245, u246, u247, u248, u249, u250, u251, u252, u253, u254, u255, u256, u257, u258, u259, u260, u261, u262, u263, u264, u265, u266, u267, u268, u269, u270, u271, u272, u273, u274, u275, u276, u277, u278, u279, u280, u281, u282, u283, u284, u285, u286, u287, u288, u289, u290, u291, u292, u293, u294, u295, u296, u297, u298, u299, u300, u301, u302], defers := [] } W := by
  simp only [nthC, selC, Tryz.f20, Option.getD_some]
  refine Code.wp_mono NoPanic.imp ?_
  go_loopw [17] (fun i wr => ∃ k : Nat, i = .int .i64 k ∧ k ≤ L.length ∧ Below W.heap.size W wr ∧ (∀ j (h : j < L.length), j < k → aheadB L[j] c = true)) (fun i _ => L.length - (intOf i).toNat)
  case atStart => exact ⟨0, rfl, by omega, Below.refl _ _, fun j _ h => by omega⟩
  case round =>
    obtain ⟨k, rfl, hk, hbr, hall⟩ := hrel
    have HB := hide hbr
    have HA := hide hall
    have HXr := hide (HX.out.on hbr)
    have HCr := hide (HC.out.on hbr)
    clear hbr hall
    by_cases hlt : k < L.length
    · obtain ⟨b, off, rfl, hbw, -, hc⟩ := HL.out.full' (by omega)
      have hcc := (hc k hlt).2.below HB.out hbw
      have HCC := hide hcc
      clear hc hcc
      go_step
      go_step
      go_step
      go_cut [256] from 243 to 257 (fun q wc => q = .bool (aheadB L[k] c) ∧ Below wr.heap.size wr wc)
      case first =>
        have xn : Nonempty (In (Up wr)) := ⟨⟨wr, Below.refl _ _⟩⟩
        have xs := fun (X : In (Up wr)) => in_self X
        have x2 : ∀ X : In (Up wr), X.w.cell? ⟨γ, 2, none⟩ = some (.slice (some ⟨b, off, none⟩) L.length ck) := fun X => Up.cell X (by rw [HXr.out.cell 2]; rfl)
        have d0 : ∀ X : In (Up wr), _ := fun X => Up.cell X HCC.out.c0
        have d1 : ∀ X : In (Up wr), _ := fun X => Up.cell X HCC.out.c1
        have d2 : ∀ X : In (Up wr), _ := fun X => Up.cell X HCC.out.c2
        have d3 : ∀ X : In (Up wr), _ := fun X => Up.cell X HCC.out.c3
        have d4 : ∀ X : In (Up wr), _ := fun X => Up.cell X HCC.out.c4
        have d5 : ∀ X : In (Up wr), _ := fun X => Up.cell X HCC.out.c5
        have d6 : ∀ X : In (Up wr), _ := fun X => Up.cell X HCC.out.c6
        have e0 : ∀ X : In (Up wr), X.w.cell? ⟨ρ, 0, none⟩ = some (.string c.se) := fun X => Up.cell X (by rw [HCr.out.cell 0]; rfl)
        have e1 : ∀ X : In (Up wr), X.w.cell? ⟨ρ, 1, none⟩ = some (.int .i64 c.nu) := fun X => Up.cell X (by rw [HCr.out.cell 1]; rfl)
        have e2 : ∀ X : In (Up wr), X.w.cell? ⟨ρ, 2, none⟩ = some (.int .i64 c.ve) := fun X => Up.cell X (by rw [HCr.out.cell 2]; rfl)
        have e3 : ∀ X : In (Up wr), X.w.cell? ⟨ρ, 3, none⟩ = some (.int .i64 c.im) := fun X => Up.cell X (by rw [HCr.out.cell 3]; rfl)
        have e4 : ∀ X : In (Up wr), X.w.cell? ⟨ρ, 4, none⟩ = some (.int .i64 c.st) := fun X => Up.cell X (by rw [HCr.out.cell 4]; rfl)
        have e5 : ∀ X : In (Up wr), X.w.cell? ⟨ρ, 5, none⟩ = some (.bool c.en) := fun X => Up.cell X (by rw [HCr.out.cell 5]; rfl)
        have e6 : ∀ X : In (Up wr), X.w.cell? ⟨ρ, 6, none⟩ = some (.string c.be) := fun X => Up.cell X (by rw [HCr.out.cell 6]; rfl)
        have i0 : (0 : Int) ≤ (k : Int) := by omega
        have i1 : (k : Int) < (L.length : Int) := by omega
        refine wp_region_class (Up wr) (by kernel_rfl) (by kernel_rfl) ((Below.refl _ _).drew) ?_
        repeat (go_big_quiet_step ((go_at_call 48; rename_i X; exact (ahead_any L[k] c _).mono fun _ _ h => ⟨h.1, Up.next X h.2⟩)))
        refine wpQuiet_nil ?_
        intro wn hw
        obtain ⟨X, hX⟩ := hw
        have HWN : Below wr.heap.size wr wn := by rw [hX]; exact X.h
        clear hX X x2 d0 d1 d2 d3 d4 d5 d6 e0 e1 e2 e3 e4 e5 e6 xs xn
        go_wp2
        go_meet
        exact ⟨rfl, HWN⟩
      case rest =>
      revert wc
      intro wc hcut
      obtain ⟨rfl, hbc⟩ := hcut
      have HBc : Hid (Below W.heap.size W wc) := bt HB.out hbc
      clear hbc
      cases hq : aheadB L[k] c with
      | true =>
        have HS := hide (step_all (f := fun d => aheadB d c) HA.out hlt hq)
        clear hq
        go_wp2
        go_roundw
        case rel => exact ⟨k + 1, by go_num, by omega, HBc.out, HS.out⟩
        case measure => simp [intOf]; omega
      | false =>
        have HT := hide (tw_len (p := fun d => aheadB d c) hk HA.out (fun _ => hq))
        clear hq
        go_wp2
        rw [← HT.out]
        exact HQ.out _ _ _ _ _ _ _ _ _ _ _ _ _ _ _ _ _ HBc.out
    · have hkl : k = L.length := by omega
      have HT := hide (tw_len (p := fun d => aheadB d c) hk HA.out (fun h => absurd h hlt))
      go_step
      go_step
      go_step
      go_cut [256] from 243 to 257 (fun q wc => q = .bool false ∧ Below wr.heap.size wr wc)
      case first =>
        have xn : Nonempty (In (Up wr)) := ⟨⟨wr, Below.refl _ _⟩⟩
        have xs := fun (X : In (Up wr)) => in_self X
        have x2 : ∀ X : In (Up wr), X.w.cell? ⟨γ, 2, none⟩ = some (.slice ca L.length ck) := fun X => Up.cell X (by rw [HXr.out.cell 2]; rfl)
        have i2 : ¬ ((k : Int) < (L.length : Int)) := by omega
        clear hkl
        refine wp_region_class (Up wr) (by kernel_rfl) (by kernel_rfl) ((Below.refl _ _).drew) ?_
        repeat (go_big_quiet_step (fail))
        refine wpQuiet_nil ?_
        intro wn hw
        obtain ⟨X, hX⟩ := hw
        have HWN : Below wr.heap.size wr wn := by rw [hX]; exact X.h
        clear hX X x2 xs xn
        go_wp2
        go_meet
        exact ⟨rfl, HWN⟩
      case rest =>
      revert wc
      intro wc hcut
      obtain ⟨rfl, hbc⟩ := hcut
      have HBc : Hid (Below W.heap.size W wc) := bt HB.out hbc
      clear hbc hkl
      go_wp2
      rw [← HT.out]
      exact HQ.out _ _ _ _ _ _ _ _ _ _ _ _ _ _ _ _ _ HBc.out
end Go.Proofs.YtaogpeebencnoaaGreatDoor
