import Derived.Test.YtaogpeebencnoaaGreatDoorA30
import Derived.Test.YtaogpeebencnoaaGreatDoorA31
import Derived.Test.YtaogpeebencnoaaGreatDoorA32
namespace Go.Proofs.YtaogpeebencnoaaGreatDoor
open Go.RowKit Go.Deep

theorem crF_step {s : ByteArray} {v im : Int} {n j : Nat} {nx : Int} {L : List Cp} (h : j < n) : crF s v im (n - j) (nx + (j : Nat)) L = crF s v im (n - (j + 1)) (nx + ((j + 1 : Nat) : Int)) (insF L (newC s (nx + (j : Nat)) v im)) := by
  have e : n - j = (n - (j + 1)) + 1 := by omega
  rw [e, crF]
  congr 1
  omega
theorem insF_take (L : List Cp) (c : Cp) : insF L c = L.take (L.takeWhile fun d => aheadB d c).length ++ c :: L.drop (L.takeWhile fun d => aheadB d c).length := by
  have e := List.takeWhile_append_dropWhile (p := fun d => aheadB d c) (l := L)
  unfold insF
  have h1 : L.take (L.takeWhile fun d => aheadB d c).length = L.takeWhile fun d => aheadB d c := by
    conv => lhs; arg 2; rw [← e]
    exact List.take_left
  have h2 : L.drop (L.takeWhile fun d => aheadB d c).length = L.dropWhile fun d => aheadB d c := by
    conv => lhs; arg 2; rw [← e]
    exact List.drop_left
  rw [h1, h2]

set_option maxRecDepth 100000 in
set_option maxHeartbeats 16000000 in
theorem applyLoop_any {w W : World} {γ σ s0 s1 c0 c1 e0 e1 K ub uo m0 ck ek ec : Nat} {ca eb ea : Option Addr} {nw v : Int} {A : Ac} {z : Sv} {ss : List Sv} {cs : List Cp} {bs : List Be} {Y : Sb} {u0 u1 u2 u5 u7 u8 u11 u12 u14 u15 u16 u17 u18 u19 u20 u21 u22 u23 u24 u25 u26 u27 u28 u29 u30 u31 u32 u33 u34 u35 u36 u37 u38 u39 u40 u41 u42 u43 u44 u45 u46 u47 u48 u49 u50 u51 u52 u53 u54 u55 u56 u57 u58 u59 u60 u61 u62 u63 u64 u65 u66 u67 u68 u69 u70 u71 u72 u73 u74 u75 u76 u77 u78 u79 u80 u81 u82 u83 u84 u85 u86 u87 u88 u89 u90 u91 u92 u93 u94 u95 u96 u97 u98 u99 u100 u101 u102 u103 u104 u105 u106 u107 u108 u109 u110 u111 u112 u113 u114 u115 u116 u117 u118 u119 u120 u121 u122 u123 u124 u125 u126 u127 u128 u129 u130 u131 u132 u133 u134 u135 u136 u137 u138 u139 u140 u141 u142 u143 u144 u145 u146 u147 u148 u149 u150 u151 u152 u153 u154 u155 u156 u157 u158 u159 u160 u161 u162 u163 u164 u165 u166 u167 u168 u169 u170 u171 u172 u173 u174 u175 u176 u177 u178 u179 u180 u181 u182 u183 u184 u185 u186 u187 u188 u189 u190 u191 u192 u193 u194 u195 u196 u197 u198 u199 u200 u201 u202 u203 u204 u205 u206 u207 u208 u209 u210 u211 u212 u213 u214 u215 u216 u217 u218 u219 u220 u221 u222 u223 u224 u225 u226 u227 u228 u229 u230 u231 u232 u233 u234 u235 u236 u237 u238 u239 u240 u241 u242 u243 u244 u245 u246 u247 u248 u249 u250 u251 u252 u253 u254 u255 u256 u257 u258 u259 u260 u261 u262 u263 u264 u265 u266 u267 u268 u269 u270 u271 u272 u273 u274 u275 u276 u277 u278 u279 u280 u281 u282 u283 u284 u285 u286 u287 u288 u289 u290 u291 u292 u293 u294 u295 u296 u297 u298 u299 u300 u301 u302 : Value}
    (HH : Hid (Hs8 w #[.string A.sv, .int .i64 A.sn, .int .i64 A.cr, .int .i64 A.wa, .int .i64 A.cl, .bool A.sc, .slice ea A.es.length ec, .bool A.dp] #[.int .i64 0, .slice none 0 0, .slice none 0 0, .slice none 0 0] #[.int .i64 nw, .slice (some ⟨ub, uo, none⟩) ss.length m0, .slice ca cs.length ck, .slice eb bs.length ek] #[.string z.nm, .int .i64 z.ve, .bool z.gn, .int .i64 z.im, .int .i64 z.wa, .int .i64 z.dn, .int .i64 z.ov, .int .i64 z.nx, .int .i64 z.pr, .int .i64 z.ls, .int .i64 z.ms, .int .i64 z.ld, .int .i64 z.cl] γ σ s0 s1 c0 c1 e0 e1 (.slice (some ⟨ub, uo, none⟩) ss.length m0) (.slice ca cs.length ck) (.slice eb bs.length ek) ss cs bs W)) (hs1 : s1 ≤ γ) (hk : K < ss.length) (hm : ss.length ≤ 1000000) (hc : cs.length ≤ 1000) (HZ : Hid (SvSize z)) (HZA : Hid (A.sv.size ≤ maxLen)) (h0 : 0 ≤ A.cr) (h20 : A.cr ≤ 20) (n0 : 0 ≤ z.nx) (n1 : z.nx ≤ 1000000)
    (HY : Hid (Y = ⟨v, if A.dp then (ss.set K { z with nx := z.nx + A.cr, ve := v }).eraseIdx K else ss.set K { z with nx := z.nx + A.cr, ve := v }, crF A.sv v z.im A.cr.toNat z.nx cs, bs⟩)) :
    Code.wp Tryz.prog (nthC 17 (Tryz.f20.body.getD .ret)) (bodyPost Tryz.prog Tryz.f20 fun e w' => SbRes w e w' Y 0) { tmps := #[u0, u1, u2, .pointer (some ⟨w.heap.size + 1, 0, none⟩), .pointer (some ⟨w.heap.size + 1 + 1, 0, none⟩), u5, .int .i64 K, u7, u8, .pointer (some ⟨γ, 0, none⟩), .int .i64 v, u11, u12, .pointer (some ⟨σ, 0, none⟩), u14, u15, u16, u17, u18, u19, u20, u21, u22, u23, u24, u25, u26, u27, u28, u29, u30, u31, u32, u33, u34, u35, u36, u37, u38, u39, u40, u41, u42, u43, u44, u45, u46, u47, u48, u49, u50, u51, u52, u53, u54, u55, u56, u57, u58, u59, u60, u61, u62, u63, u64, u65, u66, u67, u68, u69, u70, u71, u72, u73, u74, u75, u76, u77, u78, u79, u80, u81, u82, u83, u84, u85, u86, u87, u88, u89, u90, u91, u92, u93, u94, u95, u96, u97, u98, u99, u100, u101, u102, u103, u104, u105, u106, u107, u108, u109, u110, u111, u112, u113, u114, u115, u116, u117, u118, u119, u120, u121, u122, u123, u124, u125, u126, u127, u128, u129, u130, u131, u132, u133, u134, u135, u136, u137, u138, u139, u140, u141, u142, u143, u144, u145, u146, u147, u148, u149, u150, u151, u152, u153, u154, u155, u156, u157, u158, u159, u160, u161, u162, u163, u164, u165, u166, u167, u168, u169, u170, u171, u172, u173, u174, u175, u176, u177, u178, u179, u180, u181, u182, u183, u184, u185, u186, u187, u188, u189, u190, u191, u192, u193, u194, u195, u196, u197, u198, u199, u200, u201, u202, u203, u204, u205, u206, u207, u208, u209, u210, u211, u212, u213, u214, u215, u216, u217, u218, u219, u220, u221, u222, u223, u224, u225, u226, u227, u228, u229, u230, u231, u232, u233, u234, u235, u236, u237, u238, u239, u240, u241, u242, u243, u244, u245, u246, u247, u248, u249, u250, u251, u252, u253, u254, u255, u256, u257, u258, u259, u260, u261, u262, u263, u264, u265, u266, u267, u268, u269, u270, u271, u272, u273, u274, u275, u276, u277, u278, u279, u280, u281, u282, u283, u284, u285, u286, u287, u288, u289, u290, u291, u292, u293, u294, u295, u296, u297, u298, u299, u300, u301, u302], defers := [] } W := by
  generalize hQQ : bodyPost Tryz.prog Tryz.f20 _ = QQ
  have HQQ := hide hQQ
  clear hQQ
  simp only [nthC, Tryz.f20, Option.getD_some]
  go_step
  go_cut [15, 16, 17] from 18 (fun _ _ _ wx => ∃ (ca : Option Addr) (ck c0 c1 : Nat) (cj : List Cp), Hs8 w #[.string A.sv, .int .i64 A.sn, .int .i64 A.cr, .int .i64 A.wa, .int .i64 A.cl, .bool A.sc, .slice ea A.es.length ec, .bool A.dp] #[.int .i64 0, .slice none 0 0, .slice none 0 0, .slice none 0 0] #[.int .i64 nw, .slice (some ⟨ub, uo, none⟩) ss.length m0, .slice ca cj.length ck, .slice eb bs.length ek] #[.string z.nm, .int .i64 z.ve, .bool z.gn, .int .i64 z.im, .int .i64 z.wa, .int .i64 z.dn, .int .i64 z.ov, .int .i64 (z.nx + A.cr), .int .i64 z.pr, .int .i64 z.ls, .int .i64 z.ms, .int .i64 z.ld, .int .i64 z.cl] γ σ s0 s1 c0 c1 e0 e1 (.slice (some ⟨ub, uo, none⟩) ss.length m0) (.slice ca cj.length ck) (.slice eb bs.length ek) ss cj bs wx ∧ cj = crF A.sv v z.im A.cr.toNat z.nx cs)
  case first =>
    go_wp2_with fail
    go_loopw [15] (fun i wr => ∃ (j : Nat) (ca : Option Addr) (ck c0 c1 : Nat) (cj : List Cp), i = .int .i64 j ∧ (j : Int) ≤ A.cr ∧ Hs8 w #[.string A.sv, .int .i64 A.sn, .int .i64 A.cr, .int .i64 A.wa, .int .i64 A.cl, .bool A.sc, .slice ea A.es.length ec, .bool A.dp] #[.int .i64 0, .slice none 0 0, .slice none 0 0, .slice none 0 0] #[.int .i64 nw, .slice (some ⟨ub, uo, none⟩) ss.length m0, .slice ca cj.length ck, .slice eb bs.length ek] #[.string z.nm, .int .i64 z.ve, .bool z.gn, .int .i64 z.im, .int .i64 z.wa, .int .i64 z.dn, .int .i64 z.ov, .int .i64 (z.nx + (j : Nat)), .int .i64 z.pr, .int .i64 z.ls, .int .i64 z.ms, .int .i64 z.ld, .int .i64 z.cl] γ σ s0 s1 c0 c1 e0 e1 (.slice (some ⟨ub, uo, none⟩) ss.length m0) (.slice ca cj.length ck) (.slice eb bs.length ek) ss cj bs wr ∧ cj.length = cs.length + j ∧ crF A.sv v z.im A.cr.toNat z.nx cs = crF A.sv v z.im (A.cr.toNat - j) (z.nx + (j : Nat)) cj) (fun i _ => A.cr.toNat - (intOf i).toNat)
    case atStart => exact ⟨0, ca, ck, c0, c1, cs, rfl, h0, by simpa using HH.out, by omega, by simp⟩
    case round =>
      obtain ⟨j, ca, ck, c0, c1, cj, rfl, hj, hh, hlen, hcr⟩ := hrel
      have HJ := hide hh
      have HCR := hide hcr
      have az := hh.az
      have q2 := hh.fq.cell 2
      simp at q2
      clear hh hcr HH
      by_cases hlt : (j : Int) < A.cr
      · have HSZ : Hid (CpSize (newC A.sv (z.nx + (j : Nat)) v z.im)) := ⟨HZA.out, Nat.zero_le _⟩
        have q0 := HJ.out.fq.cell 0
        have s3 := HJ.out.fs.cell 3
        have s7 := HJ.out.fs.cell 7
        simp at q0 s3 s7
        go_wp2_with fail
        clear q0 q2 s3 s7
        generalize hWb : wr.alloc _ = Wb
        have HJb : Hid (Hs8 w #[.string A.sv, .int .i64 A.sn, .int .i64 A.cr, .int .i64 A.wa, .int .i64 A.cl, .bool A.sc, .slice ea A.es.length ec, .bool A.dp] #[.int .i64 0, .slice none 0 0, .slice none 0 0, .slice none 0 0] #[.int .i64 nw, .slice (some ⟨ub, uo, none⟩) ss.length m0, .slice ca cj.length ck, .slice eb bs.length ek] #[.string z.nm, .int .i64 z.ve, .bool z.gn, .int .i64 z.im, .int .i64 z.wa, .int .i64 z.dn, .int .i64 z.ov, .int .i64 (z.nx + (j : Nat)), .int .i64 z.pr, .int .i64 z.ls, .int .i64 z.ms, .int .i64 z.ld, .int .i64 z.cl] γ σ s0 s1 c0 c1 e0 e1 (.slice (some ⟨ub, uo, none⟩) ss.length m0) (.slice ca cj.length ck) (.slice eb bs.length ek) ss cj bs Wb) := by unfold Hid; rw [← hWb]; exact HJ.out.on (one_al _ _)
        have HCb : Hid (Box Wb wr.heap.size #[.string (newC A.sv (z.nx + (j : Nat)) v z.im).se, .int .i64 (newC A.sv (z.nx + (j : Nat)) v z.im).nu, .int .i64 (newC A.sv (z.nx + (j : Nat)) v z.im).ve, .int .i64 (newC A.sv (z.nx + (j : Nat)) v z.im).im, .int .i64 (newC A.sv (z.nx + (j : Nat)) v z.im).st, .bool (newC A.sv (z.nx + (j : Nat)) v z.im).en, .string (newC A.sv (z.nx + (j : Nat)) v z.im).be]) := by unfold Hid; rw [← hWb]; exact Box.new _ _ _ _ rfl
        clear hWb HJ
        refine ahead8 (c := newC A.sv (z.nx + (j : Nat)) v z.im) (hide HJb.out.fx) HCb (hide (HJb.out.co.at.mono (Nat.zero_le _))) (by omega) (hide ?_)
        intro W3 x243 x244 x245 x246 x247 x248 x249 x250 x251 x252 x253 x254 x255 x256 x257 x258 hb3
        replace HJb := hide (HJb.out.on hb3)
        replace HCb := hide (HCb.out.on hb3)
        clear hb3
        obtain ⟨n, hn⟩ : ∃ n, n = (cj.takeWhile fun d => aheadB d (newC A.sv (z.nx + (j : Nat)) v z.im)).length := ⟨_, rfl⟩
        have hnl : n ≤ cj.length := by rw [hn]; exact (List.takeWhile_prefix _).length_le
        have HIN : Hid (cj.take n ++ newC A.sv (z.nx + (j : Nat)) v z.im :: cj.drop n = insF cj (newC A.sv (z.nx + (j : Nat)) v z.im)) := by unfold Hid; rw [hn, ← insF_take]
        have hjt : j < A.cr.toNat := by omega
        have HSTEP : Hid (crF A.sv v z.im A.cr.toNat z.nx cs = crF A.sv v z.im (A.cr.toNat - (j + 1)) (z.nx + ((j + 1 : Nat) : Int)) (insF cj (newC A.sv (z.nx + (j : Nat)) v z.im))) := by unfold Hid; rw [HCR.out, crF_step hjt]
        have HIL : Hid ((insF cj (newC A.sv (z.nx + (j : Nat)) v z.im)).length = cs.length + (j + 1)) := by
          unfold Hid
          rw [← HIN.out, List.length_append, List.length_cons, List.length_take, List.length_drop]
          omega
        rw [← hn]
        have HNN := hide hn
        clear hn hjt HCR
        simp only [Exit.inBlock, Exit.then, if_true]
        go_upto_region 48 with fail
        refine ins48o (c := newC A.sv (z.nx + (j : Nat)) v z.im) (hide HJb.out.fx) HCb (hide (HJb.out.co.at.mono (Nat.zero_le _))) hnl (by omega) HSZ (hide ?_)
        intro W4 v' x259 x260 x261 x262 x263 x264 x265 x266 x267 x268 x269 x270 x271 x272 x273 hb4 ho4
        rw [HIN.out] at ho4
        obtain ⟨da, dk, rfl⟩ := ho4.form
        have H4 : Hid (Hs8 w #[.string A.sv, .int .i64 A.sn, .int .i64 A.cr, .int .i64 A.wa, .int .i64 A.cl, .bool A.sc, .slice ea A.es.length ec, .bool A.dp] #[.int .i64 0, .slice none 0 0, .slice none 0 0, .slice none 0 0] #[.int .i64 nw, .slice (some ⟨ub, uo, none⟩) ss.length m0, .slice da (insF cj (newC A.sv (z.nx + (j : Nat)) v z.im)).length dk, .slice eb bs.length ek] #[.string z.nm, .int .i64 z.ve, .bool z.gn, .int .i64 z.im, .int .i64 z.wa, .int .i64 z.dn, .int .i64 z.ov, .int .i64 (z.nx + (j : Nat)), .int .i64 z.pr, .int .i64 z.ls, .int .i64 z.ms, .int .i64 z.ld, .int .i64 z.cl] γ σ s0 s1 W3.heap.size W4.heap.size e0 e1 (.slice (some ⟨ub, uo, none⟩) ss.length m0) (.slice da (insF cj (newC A.sv (z.nx + (j : Nat)) v z.im)).length dk) (.slice eb bs.length ek) ss (insF cj (newC A.sv (z.nx + (j : Nat)) v z.im)) bs (W4.setCell ⟨γ, 2, none⟩ (.slice da (insF cj (newC A.sv (z.nx + (j : Nat)) v z.im)).length dk))) := HJb.out.swapC hs1 hb4 ho4 (by simp)
        clear HJb HCb hb4 ho4
        generalize hW5 : W4.setCell _ _ = W5 at *
        clear hW5
        have wv : IntKind.i64.wrap (z.nx + (j : Nat) + 1) = z.nx + (j : Nat) + 1 := by rw [IntWalk.i64_left]; unfold wrap64; omega
        have H6 : Hid (Hs8 w #[.string A.sv, .int .i64 A.sn, .int .i64 A.cr, .int .i64 A.wa, .int .i64 A.cl, .bool A.sc, .slice ea A.es.length ec, .bool A.dp] #[.int .i64 0, .slice none 0 0, .slice none 0 0, .slice none 0 0] #[.int .i64 nw, .slice (some ⟨ub, uo, none⟩) ss.length m0, .slice da (insF cj (newC A.sv (z.nx + (j : Nat)) v z.im)).length dk, .slice eb bs.length ek] #[.string z.nm, .int .i64 z.ve, .bool z.gn, .int .i64 z.im, .int .i64 z.wa, .int .i64 z.dn, .int .i64 z.ov, .int .i64 (z.nx + (j : Nat) + 1), .int .i64 z.pr, .int .i64 z.ls, .int .i64 z.ms, .int .i64 z.ld, .int .i64 z.cl] γ σ s0 s1 W3.heap.size W4.heap.size e0 e1 (.slice (some ⟨ub, uo, none⟩) ss.length m0) (.slice da (insF cj (newC A.sv (z.nx + (j : Nat)) v z.im)).length dk) (.slice eb bs.length ek) ss (insF cj (newC A.sv (z.nx + (j : Nat)) v z.im)) bs (W5.setCell ⟨σ, 7, none⟩ (.int .i64 (z.nx + (j : Nat) + 1)))) := H4.out.setS 7 (.int .i64 (z.nx + (j : Nat) + 1)) (by simp)
        have s7 := H4.out.fs.cell 7
        have sf := H4.out.fs.free
        simp at s7
        simp only [Exit.then]
        go_wp2
        clear s7 sf H4
        generalize W5.setCell _ _ = W6 at *
        rw [show z.nx + (j : Nat) + 1 = z.nx + ((j + 1 : Nat) : Int) by omega] at H6
        clear wv
        go_roundw
        case rel => exact ⟨j + 1, da, dk, _, _, _, by go_num, by omega, H6.out, HIL.out, HSTEP.out⟩
        case measure => simp [intOf]; omega
      · have hje : (j : Int) = A.cr := by omega
        have hjn : A.cr.toNat - j = 0 := by omega
        have HF : Hid (cj = crF A.sv v z.im A.cr.toNat z.nx cs) := by unfold Hid; rw [HCR.out, hjn]; rfl
        have HJ2 : Hid (Hs8 w #[.string A.sv, .int .i64 A.sn, .int .i64 A.cr, .int .i64 A.wa, .int .i64 A.cl, .bool A.sc, .slice ea A.es.length ec, .bool A.dp] #[.int .i64 0, .slice none 0 0, .slice none 0 0, .slice none 0 0] #[.int .i64 nw, .slice (some ⟨ub, uo, none⟩) ss.length m0, .slice ca cj.length ck, .slice eb bs.length ek] #[.string z.nm, .int .i64 z.ve, .bool z.gn, .int .i64 z.im, .int .i64 z.wa, .int .i64 z.dn, .int .i64 z.ov, .int .i64 (z.nx + A.cr), .int .i64 z.pr, .int .i64 z.ls, .int .i64 z.ms, .int .i64 z.ld, .int .i64 z.cl] γ σ s0 s1 c0 c1 e0 e1 (.slice (some ⟨ub, uo, none⟩) ss.length m0) (.slice ca cj.length ck) (.slice eb bs.length ek) ss cj bs wr) := by
          have e : z.nx + A.cr = z.nx + (j : Nat) := by omega
          unfold Hid
          rw [e]
          exact HJ.out
        clear HJ hje hjn HCR
        go_wp2
        go_meet
        exact ⟨ca, ck, c0, c1, cj, HJ2.out, HF.out⟩
  case rest =>
    revert wc
    intro W2 hcut
    obtain ⟨ca, ck, c0, c1, cj, hh, hcj⟩ := hcut
    go_step
    rw [← HQQ.out]
    exact applyEnd_any (z := { z with nx := z.nx + A.cr }) (hide hh) hk hm ⟨HZ.out.s0⟩ (by unfold Hid; rw [HY.out, hcj])
end Go.Proofs.YtaogpeebencnoaaGreatDoor
namespace Go.Proofs.YtaogpeebencnoaaGreatDoor
open Go.RowKit Go.Deep

theorem valid_slen {B : Sb} (h : validB B = true) : B.ss.length ≤ 1000000 := by
  unfold validB at h
  simp only [Bool.and_eq_true, decide_eq_true_iff] at h
  have := h.2.1
  omega
theorem Hs7.to8 {w : World} {P Q R X S T : Array Value} {γ σ τ lo hi : Nat} {sv cv bv : Value} {Xb : Sb} {W : World} (h : Hs7 w P Q R X S T γ σ τ lo hi sv cv bv Xb W) (h1 : w.heap.size + 1 + 1 < lo) (h2 : hi ≤ γ) (h3 : γ < σ) (h4 : lo ≤ hi) :
    ∃ s0 s1 c0 c1 e0 e1, s1 ≤ γ ∧ Hs8 w Q R X S γ σ s0 s1 c0 c1 e0 e1 sv cv bv Xb.ss Xb.cs Xb.bs W := by
  obtain ⟨s0, s1, c0, c1, b0, b1, ha, g1, g2, g3⟩ := h.ow
  have y1 := ha.s
  have y2 := ha.c
  have y3 := ha.b
  have y4 := ha.sc
  have y5 := ha.cb
  have y7 := ha.sb
  have y6 := h.fx.lt
  exact ⟨s0, s1, c0, c1, b0, b1, by omega, h.hb, h.fq, h.fr, h.fx, h.fs, g1, g2, g3, by omega, by omega⟩

set_option maxRecDepth 20000 in
set_option maxHeartbeats 16000000 in
theorem applySev_any {lo : Nat} {w W3 w3 W8 w10 W12 : World} {sb so k0 k1 k2 : Nat} {a1 a2 ea : Option Addr} {ec ub uo m0 m1 m2 : Nat} {b1 b2 : Option Addr} {K : Nat} {B X : Sb} {A : Ac} {x y : Sv} {n0 : Ct} {v5 v7 v8 v11 v12 v15 v16 v17 : Value} {u18 u19 u20 u21 u22 u23 u24 u25 u26 u27 u28 u29 u30 u31 u32 u33 u34 u35 u36 u37 u38 u39 u40 u41 u42 u43 u44 u45 u46 u47 u48 u49 u50 u51 u52 u53 u54 u55 u56 u57 u58 u59 u60 u61 u62 u63 u64 u65 u66 u67 u68 u69 u70 u71 u72 u73 u74 u75 u76 u77 u78 u79 u80 u81 u82 u83 u84 u85 u86 u87 u88 u89 u90 u91 u92 u93 u94 u95 u96 u97 u98 u99 u100 u101 u102 u103 u104 u105 u106 u107 u108 u109 u110 u111 u112 u113 u114 u115 u116 u117 u118 u119 u120 u121 u122 u123 u124 u125 u126 u127 u128 u129 u130 u131 u132 u133 u134 u135 u136 u137 u138 u139 u140 u141 u142 u143 u144 u145 u146 u147 u148 u149 u150 u151 u152 u153 u154 u155 u156 u157 u158 u159 u160 u161 u162 u163 u164 u165 u166 u167 u168 u169 u170 u171 u172 u173 u174 u175 u176 u177 u178 u179 u180 u181 u182 u183 u184 u185 u186 u187 u188 u189 u190 u191 u192 u193 u194 u195 u196 u197 u198 u199 u200 u201 u202 u203 u204 u205 u206 u207 u208 u209 u210 u211 u212 u213 u214 u215 u216 u217 u218 u219 u220 u221 u222 u223 u224 u225 u226 u227 u228 u229 u230 u231 u232 u233 u234 u235 u236 u237 u238 u239 u240 u241 u242 u243 u244 u245 u246 u247 u248 u249 u250 u251 u252 u253 u254 u255 u256 u257 u258 u259 u260 u261 u262 u263 u264 u265 u266 u267 u268 u269 u270 u271 u272 u273 u274 u275 u276 u277 u278 u279 u280 u281 u282 u283 u284 u285 u286 u287 u288 u289 u290 u291 u292 u293 u294 u295 u296 u297 u298 u299 u300 u301 u302 : Value}
    (HK : Hid (SbAt lo w (.slice (some ⟨sb, so, none⟩) B.ss.length k0) (.slice a1 B.cs.length k1) (.slice a2 B.bs.length k2) B)) (HV : Hid (validB B = true)) (HF : Hid (svF B.ss A.sv = some x)) (HKK : Hid (K = svI B.ss A.sv)) (hi : K < B.ss.length) (HEK : Hid (EndOk B X)) (HY : Hid (y = scS A x))
    (HYB : Hid ((0 ≤ y.wa ∧ y.wa ≤ 10) ∧ (0 ≤ y.ov ∧ y.ov ≤ 10) ∧ (1 ≤ y.nx ∧ y.nx ≤ 1000000) ∧ (0 ≤ A.cr ∧ A.cr ≤ 20))) (HE9 : Hid (appF B A = if sev B A y then (B, 7) else (finX B X A y, 0))) (HH : Hid (Hs7 w #[.int .i64 B.now, .slice (some ⟨sb, so, none⟩) B.ss.length k0, .slice a1 B.cs.length k1, .slice a2 B.bs.length k2] #[.string A.sv, .int .i64 A.sn, .int .i64 A.cr, .int .i64 A.wa, .int .i64 A.cl, .bool A.sc, .slice ea A.es.length ec, .bool A.dp] #[.int .i64 0, .slice none 0 0, .slice none 0 0, .slice none 0 0] #[.int .i64 B.now, .slice (some ⟨ub, uo, none⟩) B.ss.length m0, .slice b1 B.cs.length m1, .slice b2 B.bs.length m2] #[.string y.nm, .int .i64 y.ve, .bool y.gn, .int .i64 y.im, .int .i64 y.wa, .int .i64 y.dn, .int .i64 y.ov, .int .i64 y.nx, .int .i64 y.pr, .int .i64 y.ls, .int .i64 y.ms, .int .i64 y.ld, .int .i64 y.cl] #[.int .i64 n0.li, .int .i64 n0.re, .int .i64 n0.ol, .int .i64 n0.fa, .int .i64 n0.en] w3.heap.size W8.heap.size w10.heap.size W3.heap.size w3.heap.size (.slice (some ⟨ub, uo, none⟩) B.ss.length m0) (.slice b1 B.cs.length m1) (.slice b2 B.bs.length m2) X W12)) (hfr : w.heap.size + 1 + 1 < W3.heap.size) (hz3 : W3.heap.size ≤ w3.heap.size) (hz8 : w3.heap.size < W8.heap.size) (_hz10 : W8.heap.size < w10.heap.size) :
    Code.wp Tryz.prog (nthC 16 (Tryz.f20.body.getD .ret)) (bodyPost Tryz.prog Tryz.f20 fun e w' => SbRes w e w' (appF B A).1 (appF B A).2) { tmps := #[.agg #[.int .i64 B.now, .slice (some ⟨sb, so, none⟩) B.ss.length k0, .slice a1 B.cs.length k1, .slice a2 B.bs.length k2], .agg #[.string A.sv, .int .i64 A.sn, .int .i64 A.cr, .int .i64 A.wa, .int .i64 A.cl, .bool A.sc, .slice ea A.es.length ec, .bool A.dp], .pointer (some ⟨w.heap.size, 0, none⟩), .pointer (some ⟨w.heap.size + 1, 0, none⟩), .pointer (some ⟨w.heap.size + 1 + 1, 0, none⟩), v5, .int .i64 K, v7, v8, .pointer (some ⟨w3.heap.size, 0, none⟩), .int .i64 (B.now + 1), v11, v12, .pointer (some ⟨W8.heap.size, 0, none⟩), .pointer (some ⟨w10.heap.size, 0, none⟩), v15, v16, v17, u18, u19, u20, u21, u22, u23, u24, u25, u26, u27, u28, u29, u30, u31, u32, u33, u34, u35, u36, u37, u38, u39, u40, u41, u42, u43, u44, u45, u46, u47, u48, u49, u50, u51, u52, u53, u54, u55, u56, u57, u58, u59, u60, u61, u62, u63, u64, u65, u66, u67, u68, u69, u70, u71, u72, u73, u74, u75, u76, u77, u78, u79, u80, u81, u82, u83, u84, u85, u86, u87, u88, u89, u90, u91, u92, u93, u94, u95, u96, u97, u98, u99, u100, u101, u102, u103, u104, u105, u106, u107, u108, u109, u110, u111, u112, u113, u114, u115, u116, u117, u118, u119, u120, u121, u122, u123, u124, u125, u126, u127, u128, u129, u130, u131, u132, u133, u134, u135, u136, u137, u138, u139, u140, u141, u142, u143, u144, u145, u146, u147, u148, u149, u150, u151, u152, u153, u154, u155, u156, u157, u158, u159, u160, u161, u162, u163, u164, u165, u166, u167, u168, u169, u170, u171, u172, u173, u174, u175, u176, u177, u178, u179, u180, u181, u182, u183, u184, u185, u186, u187, u188, u189, u190, u191, u192, u193, u194, u195, u196, u197, u198, u199, u200, u201, u202, u203, u204, u205, u206, u207, u208, u209, u210, u211, u212, u213, u214, u215, u216, u217, u218, u219, u220, u221, u222, u223, u224, u225, u226, u227, u228, u229, u230, u231, u232, u233, u234, u235, u236, u237, u238, u239, u240, u241, u242, u243, u244, u245, u246, u247, u248, u249, u250, u251, u252, u253, u254, u255, u256, u257, u258, u259, u260, u261, u262, u263, u264, u265, u266, u267, u268, u269, u270, u271, u272, u273, u274, u275, u276, u277, u278, u279, u280, u281, u282, u283, u284, u285, u286, u287, u288, u289, u290, u291, u292, u293, u294, u295, u296, u297, u298, u299, u300, u301, u302], defers := [] } W12 := by
  generalize hQQ : bodyPost Tryz.prog Tryz.f20 _ = QQ
  have HQQ := hide hQQ
  clear hQQ
  simp only [nthC, Tryz.f20, Option.getD_some]
  go_step
  have hl := HEK.out.may.len
  have hle := HEK.out.len
  have hnow := valid_now HV.out
  have HYY := HYB.out
  have v1 : IntKind.i64.wrap ((B.cs.length : Int) + A.cr) = (B.cs.length : Int) + A.cr := by rw [IntWalk.i64_left]; unfold wrap64; omega
  have v2 : IntKind.i64.wrap (y.nx + A.cr) = y.nx + A.cr := by rw [IntWalk.i64_left]; unfold wrap64; omega
  have HSEV : Hid (sev B A y = (decide (200 < (B.cs.length : Int) + A.cr) || (decide (1000000 < y.nx + A.cr) || decide (1000000 ≤ B.now)))) := rfl
  clear hl hle hnow HYY
  go_cut [] from 18 (fun wx => wx = W12 ∧ sev B A y = false)
  case first =>
    have q2 := HH.out.fq.cell 2
    have s7 := HH.out.fs.cell 7
    have p0 := HH.out.fp.cell 0
    have p2 := HH.out.fp.cell 2
    simp at q2 s7 p0 p2
    by_cases c1 : 200 < (B.cs.length : Int) + A.cr
    · have HE : Hid (appF B A = (B, 7)) := by unfold Hid; rw [HE9.out, HSEV.out, decide_eq_true c1]; rfl
      have r0 := HH.out.fr.cell
      have g0 := HH.out.fr.free
      have p := HH.out.fp.cell
      go_wp2
      rw [← HQQ.out]
      refine bodyPost_ret (v := .tuple #[.agg #[.int .i64 B.now, .slice (some ⟨sb, so, none⟩) B.ss.length k0, .slice a1 B.cs.length k1, .slice a2 B.bs.length k2], .int .i64 7]) (by simp [results, Tryz.results20, go_sem, r0]) rfl ?_
      rw [HE.out]
      have hbb := below_sets4 HH.out.hb (show w.heap.size ≤ w.heap.size + 1 + 1 by omega) (.int .i64 B.now) (.slice (some ⟨sb, so, none⟩) B.ss.length k0) (.slice a1 B.cs.length k1) (.slice a2 B.bs.length k2)
      exact ⟨_, _, _, _, _, _, rfl, hbb, (HK.out.below hbb).mono (Nat.zero_le _)⟩
    · by_cases c2 : 1000000 < y.nx + A.cr
      · have HE : Hid (appF B A = (B, 7)) := by unfold Hid; rw [HE9.out, HSEV.out, decide_eq_false c1, decide_eq_true c2]; rfl
        have r0 := HH.out.fr.cell
        have g0 := HH.out.fr.free
        have p := HH.out.fp.cell
        go_wp2
        rw [← HQQ.out]
        refine bodyPost_ret (v := .tuple #[.agg #[.int .i64 B.now, .slice (some ⟨sb, so, none⟩) B.ss.length k0, .slice a1 B.cs.length k1, .slice a2 B.bs.length k2], .int .i64 7]) (by simp [results, Tryz.results20, go_sem, r0]) rfl ?_
        rw [HE.out]
        have hbb := below_sets4 HH.out.hb (show w.heap.size ≤ w.heap.size + 1 + 1 by omega) (.int .i64 B.now) (.slice (some ⟨sb, so, none⟩) B.ss.length k0) (.slice a1 B.cs.length k1) (.slice a2 B.bs.length k2)
        exact ⟨_, _, _, _, _, _, rfl, hbb, (HK.out.below hbb).mono (Nat.zero_le _)⟩
      · by_cases c3 : 1000000 ≤ B.now
        · have HE : Hid (appF B A = (B, 7)) := by unfold Hid; rw [HE9.out, HSEV.out, decide_eq_false c1, decide_eq_false c2, decide_eq_true c3]; rfl
          have r0 := HH.out.fr.cell
          have g0 := HH.out.fr.free
          have p := HH.out.fp.cell
          go_wp2
          rw [← HQQ.out]
          refine bodyPost_ret (v := .tuple #[.agg #[.int .i64 B.now, .slice (some ⟨sb, so, none⟩) B.ss.length k0, .slice a1 B.cs.length k1, .slice a2 B.bs.length k2], .int .i64 7]) (by simp [results, Tryz.results20, go_sem, r0]) rfl ?_
          rw [HE.out]
          have hbb := below_sets4 HH.out.hb (show w.heap.size ≤ w.heap.size + 1 + 1 by omega) (.int .i64 B.now) (.slice (some ⟨sb, so, none⟩) B.ss.length k0) (.slice a1 B.cs.length k1) (.slice a2 B.bs.length k2)
          exact ⟨_, _, _, _, _, _, rfl, hbb, (HK.out.below hbb).mono (Nat.zero_le _)⟩
        · have HS : Hid (sev B A y = false) := by unfold Hid; rw [HSEV.out, decide_eq_false c1, decide_eq_false c2, decide_eq_false c3]; rfl
          go_wp2
          go_meet
          exact ⟨rfl, HS.out⟩
  case rest =>
  revert wc
  intro W13 hcut
  obtain ⟨rfl, hsv⟩ := hcut
  have HE : Hid (appF B A = (finX B X A y, 0)) := by unfold Hid; rw [HE9.out, hsv]; rfl
  obtain ⟨s0, s1, c0, c1, e0, e1, hs1, h8⟩ := HH.out.to8 hfr (Nat.le_refl _) hz8 hz3
  have hlen := HEK.out.may.len
  have hsx : SvSize x := by
    obtain ⟨i, hi', he⟩ := List.getElem_of_mem (List.mem_of_find?_eq_some HF.out)
    rw [← he]
    exact HK.out.svs.sizes i hi'
  have hnm : x.nm = A.sv := by
    have h1 := List.find?_some (show B.ss.find? (fun x => x.nm.toList == A.sv.toList) = some x from HF.out)
    exact bytes_eq.1 h1
  have hsy : SvSize y := by
    rw [HY.out]
    unfold scS
    split
    · exact ⟨hsx.s0⟩
    · exact hsx
  have hbd := HYB.out
  go_step
  rw [← HQQ.out, HE.out]
  refine applyLoop_any (ss := X.ss) (cs := X.cs) (bs := X.bs) (z := y) (Y := finX B X A y) (hide (by rw [HEK.out.ss, HEK.out.bs, HEK.out.len]; rw [HEK.out.ss, HEK.out.bs] at h8; exact h8)) hs1 (by rw [HEK.out.ss]; exact hi) (by rw [HEK.out.ss]; exact valid_slen HV.out) (by omega) hsy (by unfold Hid; rw [← hnm]; exact hsx.s0) (by omega) (by omega) (by omega) (by omega) (by unfold Hid finX; rw [HKK.out])
end Go.Proofs.YtaogpeebencnoaaGreatDoor
