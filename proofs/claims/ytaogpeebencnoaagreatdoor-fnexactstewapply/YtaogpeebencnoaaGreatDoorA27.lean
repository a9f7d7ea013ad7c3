import Derived.Test.YtaogpeebencnoaaGreatDoorA25
import Derived.Test.YtaogpeebencnoaaGreatDoorA26
namespace Go.Proofs.YtaogpeebencnoaaGreatDoor
open Go.RowKit Go.Deep

def rEn (x y : En) : Bool := decide (x.nu < y.nu)
def scB (A : Ac) : Bool := if A.sc then inB 0 10 A.wa && inB 0 3 A.cl else (A.wa == 0) && (A.cl == 0)
def dpB (A : Ac) : Bool := !A.dp || ((A.cr == 0) && (!A.sc && decide (A.es.length = 0)))
/-- is an act sound in itself? -/
def actB (A : Ac) : Bool := inB 0 20 A.cr && (decide (A.es.length ≤ 200) && (risR rEn A.es && (scB A && dpB A)))

set_option maxRecDepth 20000 in
set_option maxHeartbeats 4000000 in
theorem actOk_any (lo : Nat) (ev : Value) (A : Ac) (w : World) (h : AcAt lo w ev A) :
    Calls Tryz.prog 49 #[.agg #[.string A.sv, .int .i64 A.sn, .int .i64 A.cr, .int .i64 A.wa, .int .i64 A.cl, .bool A.sc, ev, .bool A.dp]] w fun e w' => e = .returned (.bool (actB A)) ∧ Below w.heap.size w w' := by
  have HI : Hid (actB A = (inB 0 20 A.cr && (decide (A.es.length ≤ 200) && (risR rEn A.es && (scB A && dpB A))))) := rfl
  have HL := hide h
  obtain ⟨a0, k0, rfl⟩ := h.ens.form
  have hmx := h.ens.max
  unfold maxLen at hmx
  clear h
  go_enter Tryz.func49, Tryz.ntmps49
  cases h0 : inB 0 20 A.cr with
  | false =>
    have HE : Hid (actB A = false) := by unfold Hid; rw [HI.out, h0]; rfl
    go_wp2_with (go_at_call 44; refine (in_any _ _ _ _).mono ?_; rintro e w' ⟨rfl, rfl⟩)
    go_ret
    exact ⟨ret_bool HE.out.symm, one_al _ _⟩
  | true =>
  by_cases h1 : 200 < A.es.length
  · have HE : Hid (actB A = false) := by unfold Hid; rw [HI.out, h0, decide_eq_false (by omega)]; rfl
    go_wp2_with (go_at_call 44; refine (in_any _ _ _ _).mono ?_; rintro e w' ⟨rfl, rfl⟩)
    go_ret
    exact ⟨ret_bool HE.out.symm, one_al _ _⟩
  have HE0 : Hid (actB A = (risR rEn A.es && (scB A && dpB A))) := by unfold Hid; rw [HI.out, h0, decide_eq_true (by omega)]; rfl
  go_wp2_with (go_at_call 44; refine (in_any _ _ _ _).mono ?_; rintro e w' ⟨rfl, rfl⟩)
  clear h0
  generalize hWa : w.alloc _ = Wa
  have HB0 : Hid (Below w.heap.size w Wa) := by rw [← hWa]; exact one_al w _
  have HX0 : Hid (Box Wa w.heap.size #[.string A.sv, .int .i64 A.sn, .int .i64 A.cr, .int .i64 A.wa, .int .i64 A.cl, .bool A.sc, .slice a0 A.es.length k0, .bool A.dp]) := by rw [← hWa]; exact Box.new _ _ _ _ rfl
  clear hWa
  go_loopw [3] (fun i wr => ∃ m : Nat, i = .int .i64 m ∧ 1 ≤ m ∧ (m ≤ A.es.length ∨ m = 1) ∧ Below w.heap.size w wr ∧ Box wr w.heap.size #[.string A.sv, .int .i64 A.sn, .int .i64 A.cr, .int .i64 A.wa, .int .i64 A.cl, .bool A.sc, .slice a0 A.es.length k0, .bool A.dp] ∧ ∀ j, j < m → risN rEn A.es j = true) (fun i _ => A.es.length + 1 - (intOf i).toNat)
  case atStart => exact ⟨1, rfl, Nat.le_refl _, Or.inr rfl, HB0.out, HX0.out, fun j hj => by rw [show j = 0 by omega]; rfl⟩
  case round =>
    obtain ⟨m, rfl, hm1, hk, hb, hx, hall⟩ := hrel
    have HB := hide hb
    have HX := hide hx
    have HA := hide hall
    clear hb hx hall HB0 HX0
    by_cases hlt : m < A.es.length
    · obtain ⟨k, hkm⟩ : ∃ k, m = k + 1 := ⟨m - 1, by omega⟩
      have hlt0 : k < A.es.length := by omega
      obtain ⟨b, off, rfl, hbw, -, hc⟩ := HL.out.ens.full' (by omega)
      have c0 := ((hc k hlt0).2.below HB.out hbw).c0
      have d0 := ((hc m hlt).2.below HB.out hbw).c0
      have HS : Hid (risN rEn A.es m = decide (A.es[k].nu < A.es[m].nu)) := by
        subst hkm
        exact risN_at hlt
      have e2 : IntKind.i64.wrap ((m : Int) - 1) = k := by rw [IntWalk.i64_left]; unfold wrap64; omega
      have x := HX.out.cell 6
      simp at x
      clear hc hkm hk
      by_cases hq : A.es[m].nu ≤ A.es[k].nu
      · have HN : Hid (actB A = false) := by
          unfold Hid
          rw [HE0.out, show risR rEn A.es = false from range_not hlt (HS.out.trans (decide_eq_false (by omega)))]
          rfl
        go_wp2
        go_quiet (fail)
        go_wp2
        go_ret
        exact ⟨ret_bool HN.out.symm, below_drewN HB.out _⟩
      · have HT : Hid (risN rEn A.es m = true) := HS.out.trans (decide_eq_true (by omega))
        go_wp2
        go_quiet (fail)
        have HBD := hide (below_drewN HB.out 1)
        go_wp2
        go_roundw
        case rel => exact ⟨m + 1, by go_num, by omega, by omega, below_drewN HB.out _, Box.below HX.out (below_drewN (Below.refl _ _) _) HX.out.lt, fun j hj => by
                      by_cases e : j = m
                      · rw [e]; exact HT.out
                      · exact HA.out j (by omega)⟩
        case measure => simp [intOf]; omega
    · have HT : Hid (actB A = (scB A && dpB A)) := by
        unfold Hid
        rw [HE0.out, show risR rEn A.es = true from range_all (fun i hi => HA.out i (by omega))]
        rfl
      have x := HX.out.cell
      clear hk HA HE0
      cases q1 : A.sc with
      | true =>
        cases q2 : inB 0 10 A.wa with
        | false =>
          have HF : Hid (actB A = false) := by unfold Hid; rw [HT.out]; unfold scB dpB; simp [q1, q2]
          go_wp2_with (go_at_call 44; refine (in_any _ _ _ _).mono ?_; rintro e w' ⟨rfl, rfl⟩)
          go_ret
          exact ⟨ret_bool (HF.out.symm), HB.out⟩
        | true =>
          cases q3 : inB 0 3 A.cl with
          | false =>
            have HF : Hid (actB A = false) := by unfold Hid; rw [HT.out]; unfold scB dpB; simp [q1, q2, q3]
            go_wp2_with (go_at_call 44; refine (in_any _ _ _ _).mono ?_; rintro e w' ⟨rfl, rfl⟩)
            go_ret
            exact ⟨ret_bool (HF.out.symm), HB.out⟩
          | true =>
            cases q7 : A.dp with
            | false =>
              have HF : Hid (actB A = true) := by unfold Hid; rw [HT.out]; unfold scB dpB; simp [q1, q2, q3, q7]
              go_wp2_with (go_at_call 44; refine (in_any _ _ _ _).mono ?_; rintro e w' ⟨rfl, rfl⟩)
              go_ret
              exact ⟨ret_bool (HF.out.symm), HB.out⟩
            | true =>
              cases q8 : (A.cr == 0) with
              | false =>
                have HF : Hid (actB A = false) := by unfold Hid; rw [HT.out]; unfold scB dpB; simp [q1, q2, q3, q7, q8]
                go_wp2_with (go_at_call 44; refine (in_any _ _ _ _).mono ?_; rintro e w' ⟨rfl, rfl⟩)
                go_ret
                exact ⟨ret_bool (HF.out.symm), HB.out⟩
              | true =>
                have HF : Hid (actB A = false) := by unfold Hid; rw [HT.out]; unfold scB dpB; simp [q1, q2, q3, q7, q8]
                go_wp2_with (go_at_call 44; refine (in_any _ _ _ _).mono ?_; rintro e w' ⟨rfl, rfl⟩)
                go_ret
                exact ⟨ret_bool (HF.out.symm), HB.out⟩
      | false =>
        cases q2 : (A.wa == 0) with
        | false =>
          have q2n : (A.wa != 0) = true := by simp only [bne, q2]; rfl
          have HF : Hid (actB A = false) := by unfold Hid; rw [HT.out]; unfold scB dpB; simp [q1, q2]
          go_wp2_with (go_at_call 44; refine (in_any _ _ _ _).mono ?_; rintro e w' ⟨rfl, rfl⟩)
          go_ret
          exact ⟨ret_bool (HF.out.symm), HB.out⟩
        | true =>
          have q2n : (A.wa != 0) = false := by simp only [bne, q2]; rfl
          cases q3 : (A.cl == 0) with
          | false =>
            have q3n : (A.cl != 0) = true := by simp only [bne, q3]; rfl
            have HF : Hid (actB A = false) := by unfold Hid; rw [HT.out]; unfold scB dpB; simp [q1, q2, q3]
            go_wp2_with (go_at_call 44; refine (in_any _ _ _ _).mono ?_; rintro e w' ⟨rfl, rfl⟩)
            go_ret
            exact ⟨ret_bool (HF.out.symm), HB.out⟩
          | true =>
            have q3n : (A.cl != 0) = false := by simp only [bne, q3]; rfl
            cases q7 : A.dp with
            | false =>
              have HF : Hid (actB A = true) := by unfold Hid; rw [HT.out]; unfold scB dpB; simp [q1, q2, q3, q7]
              go_wp2_with (go_at_call 44; refine (in_any _ _ _ _).mono ?_; rintro e w' ⟨rfl, rfl⟩)
              go_ret
              exact ⟨ret_bool (HF.out.symm), HB.out⟩
            | true =>
              cases q8 : (A.cr == 0) with
              | false =>
                have HF : Hid (actB A = false) := by unfold Hid; rw [HT.out]; unfold scB dpB; simp [q1, q2, q3, q7, q8]
                go_wp2_with (go_at_call 44; refine (in_any _ _ _ _).mono ?_; rintro e w' ⟨rfl, rfl⟩)
                go_ret
                exact ⟨ret_bool (HF.out.symm), HB.out⟩
              | true =>
                by_cases q9 : A.es.length = 0
                · have q9n : ((A.es.length : Int) == 0) = true := by simp [q9]
                  have HF : Hid (actB A = true) := by unfold Hid; rw [HT.out]; unfold scB dpB; simp [q1, q2, q3, q7, q8, q9]
                  go_wp2_with (go_at_call 44; refine (in_any _ _ _ _).mono ?_; rintro e w' ⟨rfl, rfl⟩)
                  go_ret
                  exact ⟨ret_bool (HF.out.symm), HB.out⟩
                · have q9n : ((A.es.length : Int) == 0) = false := by rw [beq_eq_false_iff_ne]; omega
                  have HF : Hid (actB A = false) := by unfold Hid; rw [HT.out]; unfold scB dpB; simp [q1, q2, q3, q7, q8, q9]
                  go_wp2_with (go_at_call 44; refine (in_any _ _ _ _).mono ?_; rintro e w' ⟨rfl, rfl⟩)
                  go_ret
                  exact ⟨ret_bool (HF.out.symm), HB.out⟩
end Go.Proofs.YtaogpeebencnoaaGreatDoor
namespace Go.Proofs.YtaogpeebencnoaaGreatDoor
open Go.RowKit Go.Deep

/-- a book's box, above a world -/
abbrev HeldD (W0 : World) (b1 : Nat) (cs1 : Array Value) (W : World) : Prop := (∀ i, W.cell? ⟨b1, i, none⟩ = cs1[i]?) ∧ Hid (Below W0.heap.size W0 W ∧ b1 < W0.heap.size)
theorem HeldD.drew {W0 : World} {b1 : Nat} {cs1 : Array Value} (h1 : Box W0 b1 cs1) : HeldD W0 b1 cs1 W0.drew := ⟨h1.cell, (Below.refl _ _).drew, h1.lt⟩
theorem HeldD.on {W0 W W' : World} {b1 : Nat} {cs1 : Array Value} (h : HeldD W0 b1 cs1 W) (hb : Below W0.heap.size W W') : HeldD W0 b1 cs1 W' := by
  obtain ⟨h1, h3⟩ := h
  obtain ⟨h4, l1⟩ := h3.out
  exact ⟨fun i => (hb.cell (p := ⟨b1, i, none⟩) l1).trans (h1 i), h4.trans hb, l1⟩
theorem HeldD.al {W0 W : World} {b1 : Nat} {cs1 : Array Value} (h : HeldD W0 b1 cs1 W.drew) (o : Obj) : HeldD W0 b1 cs1 (W.alloc o).drew := by
  have h' : HeldD W0 b1 cs1 (W.drew.alloc o) := h.on ((one_al W.drew o).mono h.2.out.1.size)
  exact h'
theorem svs_cap {lo : Nat} {w : World} {ca : Option Addr} {ck : Nat} {L : List Sv} (h : SvsAt lo w (.slice ca L.length ck) L) : L.length ≤ ck := by
  rcases h with ⟨_, _, _, h⟩ | ⟨_, _, cap, h, _, _, _, _, hc, _⟩
  · rw [h]; simp
  · injection h with _ _ h
    omega

set_option maxRecDepth 100000 in
set_option maxHeartbeats 16000000 in
theorem del53 {Q : Exit → Act → World → Prop} {W : World} {γ : Nat} {xn cv bv : Value} {b off ck K : Nat} {L : List Sv} {u0 u1 u2 u3 u4 u5 u7 u8 u10 u11 u12 u13 u14 u15 u16 u17 u18 u19 u20 u21 u22 u23 u24 u25 u26 u27 u28 u29 u30 u31 u32 u33 u34 u35 u36 u37 u38 u39 u40 u41 u42 u43 u44 u45 u46 u47 u48 u49 u50 u51 u52 u53 u54 u55 u56 u57 u58 u59 u60 u61 u62 u63 u64 u65 u66 u67 u68 u69 u70 u71 u72 u73 u74 u75 u76 u77 u78 u79 u80 u81 u82 u83 u84 u85 u86 u87 u88 u89 u90 u91 u92 u93 u94 u95 u96 u97 u98 u99 u100 u101 u102 u103 u104 u105 u106 u107 u108 u109 u110 u111 u112 u113 u114 u115 u116 u117 u118 u119 u120 u121 u122 u123 u124 u125 u126 u127 u128 u129 u130 u131 u132 u133 u134 u135 u136 u137 u138 u139 u140 u141 u142 u143 u144 u145 u146 u147 u148 u149 u150 u151 u152 u153 u154 u155 u156 u157 u158 u159 u160 u161 u162 u163 u164 u165 u166 u167 u168 u169 u170 u171 u172 u173 u174 u175 u176 u177 u178 u179 u180 u181 u182 u183 u184 u185 u186 u187 u188 u189 u190 u191 u192 u193 u194 u195 u196 u197 u198 u199 u200 u201 u202 u203 u204 u205 u206 u207 u208 u209 u210 u211 u212 u213 u214 u215 u216 u217 u218 u219 u220 u221 u222 u223 u224 u225 u226 u227 u228 u229 u230 u231 u232 u233 u234 u235 u236 u237 u238 u239 u240 u241 u242 u243 u244 u245 u246 u247 u248 u249 u250 u251 u252 u253 u254 u255 u256 u257 u258 u259 u260 u261 u262 u263 u264 u265 u266 u267 u268 u269 u270 u271 u272 u273 u274 u275 u276 u277 u278 u279 u280 u281 u282 u283 u284 u285 u286 u287 u288 u289 u290 u291 u292 u293 u294 u295 u296 u297 u298 u299 u300 u301 u302 : Value}
    (HX : Hid (Box W γ #[xn, .slice (some ⟨b, off, none⟩) L.length ck, cv, bv])) (HL : Hid (SvsAt 0 W (.slice (some ⟨b, off, none⟩) L.length ck) L)) (hk : K < L.length) (hm : L.length ≤ 1000000)
    (HQ : Hid (∀ (W' : World) (v' : Value) (x287 x288 x289 x290 x291 x292 x293 x294 x295 x296 x297 x298 x299 : Value), Below W.heap.size W W' → SvsOwn W.heap.size W'.heap.size W' v' (L.eraseIdx K) → Q .normal { tmps := #[u0, u1, u2, u3, u4, u5, .int .i64 K, u7, u8, .pointer (some ⟨γ, 0, none⟩), u10, u11, u12, u13, u14, u15, u16, u17, u18, u19, u20, u21, u22, u23, u24, u25, u26, u27, u28, u29, u30, u31, u32, u33, u34, u35, u36, u37, u38, u39, u40, u41, u42, u43, u44, u45, u46, u47, u48, u49, u50, u51, u52, u53, u54, u55, u56, u57, u58, u59, u60, u61, u62, u63, u64, u65, u66, u67, u68, u69, u70, u71, u72, u73, u74, u75, u76, u77, u78, u79, u80, u81, u82, u83, u84, u85, u86, u87, u88, u89, u90, u91, u92, u93, u94, u95, u96, u97, u98, u99, u100, u101, u102, u103, u104, u105, u106, u107, u108, u109, u110, u111, u112, u113, u114, u115, u116, u117, u118, u119, u120, u121, u122, u123, u124, u125, u126, u127, u128, u129, u130, u131, u132, u133, u134, u135, u136, u137, u138, u139, u140, u141, u142, u143, u144, u145, u146, u147, u148, u149, u150, u151, u152, u153, u154, u155, u156, u157, u158, u159, u160, u161, u162, u163, u164, u165, u166, u167, u168, u169, u170, u171, u172, u173, u174, u175, u176, u177, u178, u179, u180, u181, u182, u183, u184, u185, u186, u187, u188, u189, u190, u191, u192, u193, u194, u195, u196, u197, u198, u199, u200, u201, u202, u203, u204, u205, u206, u207, u208, u209, u210, u211, u212, u213, u214, u215, u216, u217, u218, u219, u220, u221, u222, u223, u224, u225, u226, u227, u228, u229, u230, u231, u232, u233, u234, u235, u236, u237, u238, u239, u240, u241, u242, u243, u244, u245, u246, u247, u248, u249, u250, u251, u252, u253, u254, u255, u256, u257, u258, u259, u260, u261, u262, u263, u264, u265, u266, u267, u268, u269, u270, u271, u272, u273, u274, u275, u276, u277, u278, u279, u280, u281, u282, u283, u284, u285, u286, x287, x288, x289, x290, x291, x292, x293, x294, x295, x296, x297, x298, x299, u300, u301, u302], defers := [] } (W'.setCell ⟨γ, 1, none⟩ v'))) :
    Code.wp Tryz.prog (selC [false, true, false] (nthC 20 (Tryz.f20.body.getD .ret))) Q { tmps := #[u0, u1, u2, u3, u4, u5, .int .i64 K, u7, u8, .pointer (some ⟨γ, 0, none⟩), u10, u11, u12, u13, u14, u15, u16, u17, u18, u19, u20, u21, u22, u23, u24, u25, u26, u27, u28, u29, u30, u31, u32, u33, u34, u35, u36, u37, u38, u39, u40, u41, u42, u43, u44, u45, u46, u47, u48, u49, u50, u51, u52, u53, u54, u55, u56, u57, u58, u59, u60, u61, u62, u63, u64, u65, u66, u67, u68, u69, u70, u71, u72, u73, u74, u75, u76, u77, u78, u79, u80, u81, u82, u83, u84, u85, u86, u87, u88, u89, u90, u91, u92, u93, u94, u95, u96, u97, u98, u99, u100, u101, u102, u103, u104, u105, u106, u107, u108, u109, u110, u111, u112, u113, u114, u115, u116, u117, u118, u119, u120, u121, u122, u123, u124, u125, u126, u127, u128, u129, u130, u131, u132, u133, u134, u135, u136, u137, u138, u139, u140, u141, u142, u143, u144, u145, u146, u147, u148, u149, u150, u151, u152, u153, u154, u155, u156, u157, u158, u159, u160, u161, u162, u163, u164, u165, u166, u167, u168, u169, u170, u171, u172, u173, u174, u175, u176, u177, u178, u179, u180, u181, u182, u183, u184, u185, u186, u187, u188, u189, u190, u191, u192, u193, u194, u195, u196, u197, u198, u199, u200, u201, u202, u203, u204, u205, u206, u207, u208, u209, u210, u211, u212, u213, u214, u215, u216, u217, u218, u219, u220, u221, u222, u223, u224, u225, u226, u227, u228, u229, u230, u231, u232, u233, u234, u235, u236, u237, u238, u239, u240, u241, u242, u243, u244, u245, u246, u247, u248, u249, u250, u251, u252, u253, u254, u255, u256, u257, u258, u259, u260, u261, u262, u263, u264, u265, u266, u267, u268, u269, u270, u271, u272, u273, u274, u275, u276, u277, u278, u279, u280, u281, u282, u283, u284, u285, u286, u287, u288, u289, u290, u291, u292, u293, u294, u295, u296, u297, u298, u299, u300, u301, u302], defers := [] } W := by
  simp only [nthC, selC, Tryz.f20, Option.getD_some]
  obtain ⟨i1, hi1, hz1, hy1, hx1⟩ := info_parts Tryz.info88
  have HI1 := hide (And.intro hi1 (And.intro hz1 (And.intro hy1 hx1)))
  have hcap := svs_cap HL.out
  have n0 : (0 : Int) ≤ (K : Int) := by omega
  have n1 : (K : Int) ≤ (ck : Int) := by omega
  have n2 : (K : Int) ≤ (L.length : Int) := by omega
  have n3 : K ≤ ck := by omega
  have m0 : ¬ ((K : Int) + 1 < 0) := by omega
  have m1 : (K : Int) + 1 ≤ (L.length : Int) := by omega
  have m2 : K + 1 ≤ L.length := hk
  have m3 : K + 1 ≤ ck := by omega
  have m4 : IntKind.wrap .i64 ((K : Int) + 1) = (K : Int) + 1 := by rw [IntKind.wrap_i64]; omega
  have m5 : ((K : Int) + 1).toNat = K + 1 := by omega
  clear hi1 hz1 hy1 hx1
  have HN1 : Hid (∀ W', Below W.heap.size W W' → ∀ j u, (flatV svL (L.take K))[j]? = some u → W'.cell? ((⟨b, off, none⟩ : Addr).add j) = some u) := fun W' hb j u hj => HL.out.news hb _ rfl j u (flatV_take hj)
  obtain ⟨D, hD, HN2⟩ : ∃ D : Addr, (if ck = K + 1 then some (⟨b, off, none⟩ : Addr) else some ⟨b, off + (K + 1) * 13, none⟩) = some D ∧ Hid (∀ W', Below W.heap.size W W' → ∀ j u, (flatV svL (L.drop (K + 1)))[j]? = some u → W'.cell? (D.add j) = some u) := by
    by_cases hc : ck = K + 1
    · refine ⟨⟨b, off, none⟩, by simp [hc], fun W' _ j u hj => ?_⟩
      rw [List.drop_of_length_le (by omega)] at hj
      simp [flatV] at hj
    · refine ⟨⟨b, off + (K + 1) * 13, none⟩, by simp [hc], fun W' hb j u hj => ?_⟩
      have := HL.out.news hb _ rfl _ u (flatV_drop svL_len hk hj)
      rw [Go.WideShapes.add_plain] at this ⊢
      rw [← this, Nat.add_assoc]
  have HL1 : Hid ((flatV svL (L.take K)).length = K * 13) := by unfold Hid; rw [flatV_len svL_len, List.length_take, Nat.min_eq_left (by omega)]
  have HL2 : Hid ((flatV svL (L.drop (K + 1))).length = (L.length - (K + 1)) * 13) := by unfold Hid; rw [flatV_len svL_len, List.length_drop]
  have FIN : ∀ {w5 : World} {v5 : Value}, w5.ownsRow W.heap.size 88 13 v5 (0 + K + (L.length - (K + 1))) (([] ++ flatV svL (L.take K)) ++ flatV svL (L.drop (K + 1))) → SvsOwn W.heap.size w5.heap.size w5 v5 (L.eraseIdx K) := fun {w5 v5} h => by
    have e1 : (L.eraseIdx K).length = 0 + K + (L.length - (K + 1)) := by rw [List.length_eraseIdx_of_lt hk]; omega
    have e2 : flatV svL (L.eraseIdx K) = ([] ++ flatV svL (L.take K)) ++ flatV svL (L.drop (K + 1)) := by rw [List.eraseIdx_eq_take_drop_succ, flatV_app, List.nil_append]
    rw [← e1, ← e2] at h
    refine NewRow.Svs (Or.inr h) (by rw [e1]; unfold maxLen; omega) (fun i hi => ?_)
    have hz := HL.out.sizes
    obtain ⟨k, hk, e⟩ := List.getElem_of_mem (List.mem_of_mem_eraseIdx (List.getElem_mem hi))
    rw [← e]; exact hz k hk
  refine Code.wp_mono NoPanic.imp ?_
  refine wp_region_E (S := HeldD W γ #[xn, .slice (some ⟨b, off, none⟩) L.length ck, cv, bv]) 13 (by kernel_rfl) (HeldD.drew HX.out) (fun hHeld => ?_)
  refine wpAnyE_take [2, 4, 5, 11, 13] (i := 1) (v := .pointer (some ⟨γ, 1, none⟩)) rfl (by kernel_rfl) (by kernel_rfl) (by kernel_rfl) (by kernel_rfl) (fun _ _ _ h => h) (Or.inl ⟨by rfl, fun W hW => by obtain ⟨h1, h3⟩ := hW; go_simp⟩) hHeld ?_
  try simp only [Act.put, List.getElem_toArray, List.getElem_cons_succ, List.getElem_cons_zero, List.setIfInBounds_toArray, List.set_cons_zero, List.set_cons_succ]
  refine wpAnyE_take [4, 5, 11, 13] (i := 2) (v := .slice (some ⟨b, off, none⟩) L.length ck) rfl (by kernel_rfl) (by kernel_rfl) (by kernel_rfl) (by kernel_rfl) (fun _ _ _ h => h) (Or.inl ⟨by rfl, fun W hW => by obtain ⟨h1, h3⟩ := hW; go_simp⟩) hHeld ?_
  try simp only [Act.put, List.getElem_toArray, List.getElem_cons_succ, List.getElem_cons_zero, List.setIfInBounds_toArray, List.set_cons_zero, List.set_cons_succ]
  refine wpAnyE_take [4, 5, 11, 13] (i := 3) (v := .int .i64 K) rfl (by kernel_rfl) (by kernel_rfl) (by kernel_rfl) (by kernel_rfl) (fun _ _ _ h => h) (Or.inl ⟨by rfl, fun W hW => by obtain ⟨h1, h3⟩ := hW; go_simp⟩) hHeld ?_
  try simp only [Act.put, List.getElem_toArray, List.getElem_cons_succ, List.getElem_cons_zero, List.setIfInBounds_toArray, List.set_cons_zero, List.set_cons_succ]
  refine wpAnyE_take [5, 11, 13] (i := 4) (v := .slice (some ⟨b, off, none⟩) K ck) rfl (by kernel_rfl) (by kernel_rfl) (by kernel_rfl) (by kernel_rfl) (fun _ _ _ h => h) (Or.inl ⟨by rfl, fun W hW => by obtain ⟨h1, h3⟩ := hW; go_simp⟩) hHeld ?_
  try simp only [Act.put, List.getElem_toArray, List.getElem_cons_succ, List.getElem_cons_zero, List.setIfInBounds_toArray, List.set_cons_zero, List.set_cons_succ]
  refine wpAnyE_take [7, 10, 11, 13] (i := 6) (v := .pointer (some ⟨γ, 1, none⟩)) rfl (by kernel_rfl) (by kernel_rfl) (by kernel_rfl) (by kernel_rfl) (fun _ _ _ h => h) (Or.inl ⟨by rfl, fun W hW => by obtain ⟨h1, h3⟩ := hW; go_simp⟩) hHeld ?_
  try simp only [Act.put, List.getElem_toArray, List.getElem_cons_succ, List.getElem_cons_zero, List.setIfInBounds_toArray, List.set_cons_zero, List.set_cons_succ]
  refine wpAnyE_take [10, 11, 13] (i := 7) (v := .slice (some ⟨b, off, none⟩) L.length ck) rfl (by kernel_rfl) (by kernel_rfl) (by kernel_rfl) (by kernel_rfl) (fun _ _ _ h => h) (Or.inl ⟨by rfl, fun W hW => by obtain ⟨h1, h3⟩ := hW; go_simp⟩) hHeld ?_
  try simp only [Act.put, List.getElem_toArray, List.getElem_cons_succ, List.getElem_cons_zero, List.setIfInBounds_toArray, List.set_cons_zero, List.set_cons_succ]
  refine wpAnyE_take [9, 10, 11, 13] (i := 8) (v := .int .i64 K) rfl (by kernel_rfl) (by kernel_rfl) (by kernel_rfl) (by kernel_rfl) (fun _ _ _ h => h) (Or.inl ⟨by rfl, fun W hW => by obtain ⟨h1, h3⟩ := hW; go_simp⟩) hHeld ?_
  try simp only [Act.put, List.getElem_toArray, List.getElem_cons_succ, List.getElem_cons_zero, List.setIfInBounds_toArray, List.set_cons_zero, List.set_cons_succ]
  refine wpAnyE_take [10, 11, 13] (i := 9) (v := .int .i64 ((K : Int) + 1)) rfl (by kernel_rfl) (by kernel_rfl) (by kernel_rfl) (by kernel_rfl) (fun _ _ _ h => h) (Or.inl ⟨by rfl, fun W hW => by obtain ⟨h1, h3⟩ := hW; go_simp⟩) hHeld ?_
  try simp only [Act.put, List.getElem_toArray, List.getElem_cons_succ, List.getElem_cons_zero, List.setIfInBounds_toArray, List.set_cons_zero, List.set_cons_succ]
  refine wpAnyE_take [11, 13] (i := 10) (v := .slice (some D) (L.length - (K + 1)) (ck - (K + 1))) rfl (by kernel_rfl) (by kernel_rfl) (by kernel_rfl) (by kernel_rfl) (fun _ _ _ h => h) (Or.inl ⟨by rfl, fun W hW => by obtain ⟨h1, h3⟩ := hW; go_simp⟩) hHeld ?_
  try simp only [Act.put, List.getElem_toArray, List.getElem_cons_succ, List.getElem_cons_zero, List.setIfInBounds_toArray, List.set_cons_zero, List.set_cons_succ]
  refine wpAnyE_one (i := 0) (by kernel_rfl) rfl (fun K0 hK => ?_)
  go_simp
  refine hK.out _ _ (fun _ => HeldD.al hHeld _) (fun hHx => ?_)
  clear hHeld
  have hHeld := hHx (by decide)
  clear hK K0 hHx
  try simp only [Act.put, List.getElem_toArray, List.getElem_cons_succ, List.getElem_cons_zero, List.setIfInBounds_toArray, List.set_cons_zero, List.set_cons_succ]
  refine wpAnyE_one (i := 5) (by kernel_rfl) rfl (fun K0 hK => ?_)
  refine step_append_up W (.slice (some ⟨W.heap.size, 0, none⟩) 0 0) 0 [] (some ⟨b, off, none⟩) K ck (flatV svL (L.take K)) (by rfl) (.tmp 287) (.tmp 291) 32 (by rfl) 88 i1 (.agg #[.string ⟨#[]⟩, .int .i64 0, .bool false, .int .i64 0, .int .i64 0, .int .i64 0, .int .i64 0, .int .i64 0, .int .i64 0, .int .i64 0, .int .i64 0, .int .i64 0, .int .i64 0]) 13 112 Tryz.underlying32 HI1.out.1 HI1.out.2.1 HI1.out.2.2.1 HI1.out.2.2.2 (by rfl) (by decide) (by rfl) (owns_last W _ _ 13 rfl (Nat.le_refl _)) (by rfl) HL1.out (fun e => by cases e) (below_al _) (fun ad he => by cases he; exact HN1.out _ (below_al _)) (svL_ones _) (by unfold maxLen; omega) (by omega) ?_
  intro v3 w3 hown3 hb3 hB3 hk3
  refine hK.out _ _ (fun _ => HeldD.on hHeld hb3) (fun hHx => ?_)
  clear hHeld
  have hHeld := hHx (by decide)
  clear hK K0 hHx
  try simp only [Act.put, List.getElem_toArray, List.getElem_cons_succ, List.getElem_cons_zero, List.setIfInBounds_toArray, List.set_cons_zero, List.set_cons_succ]
  refine wpAnyE_one (i := 11) (by kernel_rfl) rfl (fun K0 hK => ?_)
  refine step_append_up W v3 (0 + K) ([] ++ flatV svL (L.take K)) (some D) (L.length - (K + 1)) (ck - (K + 1)) (flatV svL (L.drop (K + 1))) (by rfl) (.tmp 292) (.tmp 297) 32 (by rfl) 88 i1 (.agg #[.string ⟨#[]⟩, .int .i64 0, .bool false, .int .i64 0, .int .i64 0, .int .i64 0, .int .i64 0, .int .i64 0, .int .i64 0, .int .i64 0, .int .i64 0, .int .i64 0, .int .i64 0]) 13 112 Tryz.underlying32 HI1.out.1 HI1.out.2.1 HI1.out.2.2.1 HI1.out.2.2.2 (by rfl) (by decide) (by rfl) hown3 (by rfl) HL2.out (fun e => by cases e) hB3 (fun ad he => by cases he; exact HN2.out _ hB3) (svL_ones _) (by unfold maxLen; omega) (by omega) ?_
  intro v5 w5 hown5 hb5 hB5 hk5
  refine hK.out _ _ (fun _ => HeldD.on hHeld hb5) (fun hHx => ?_)
  clear hHeld
  have hHeld := hHx (by decide)
  clear hK K0 hHx
  try simp only [Act.put, List.getElem_toArray, List.getElem_cons_succ, List.getElem_cons_zero, List.setIfInBounds_toArray, List.set_cons_zero, List.set_cons_succ]
  refine wpAnyE_take [13] (i := 12) (v := .pointer (some ⟨γ, 1, none⟩)) rfl (by kernel_rfl) (by kernel_rfl) (by kernel_rfl) (by kernel_rfl) (fun _ _ _ h => h) (Or.inl ⟨by rfl, fun W hW => by obtain ⟨h1, h3⟩ := hW; go_simp⟩) hHeld ?_
  try simp only [Act.put, List.getElem_toArray, List.getElem_cons_succ, List.getElem_cons_zero, List.setIfInBounds_toArray, List.set_cons_zero, List.set_cons_succ]
  refine wpAnyE_one (i := 13) (by kernel_rfl) rfl (fun K0 hK => ?_)
  obtain ⟨sa, sn, sc, rfl⟩ := owns_slice hown5
  have c2 := (HX.out.on hB5).cell 1
  have f2 := (HX.out.on hB5).free
  simp at c2
  go_simp
  refine hK.out _ _ (fun h => absurd rfl h) (fun _ => ?_)
  clear hK K0 hHeld
  try simp only [Act.put, List.getElem_toArray, List.getElem_cons_succ, List.getElem_cons_zero, List.setIfInBounds_toArray, List.set_cons_zero, List.set_cons_succ]
  refine wpAnyE_done (by kernel_rfl) ?_ _
  exact HQ.out _ _ _ _ _ _ _ _ _ _ _ _ _ _ _ hB5 (FIN hown5)
end Go.Proofs.YtaogpeebencnoaaGreatDoor
