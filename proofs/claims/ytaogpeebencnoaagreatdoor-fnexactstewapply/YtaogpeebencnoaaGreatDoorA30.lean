import Derived.Test.YtaogpeebencnoaaGreatDoorA29
namespace Go.Proofs.YtaogpeebencnoaaGreatDoor
open Go.RowKit Go.Deep

/-- all that lies in memory behind the checks -/
structure Hs8 (w : World) (Q R X S : Array Value) (γ σ s0 s1 c0 c1 e0 e1 : Nat) (sv cv bv : Value) (ss : List Sv) (cs : List Cp) (bs : List Be) (W : World) : Prop where
  hb : Below w.heap.size w W
  fq : Box W (w.heap.size + 1) Q
  fr : Box W (w.heap.size + 1 + 1) R
  fx : Box W γ X
  fs : Box W σ S
  so : SvsOwn s0 s1 W sv ss
  co : CpsOwn c0 c1 W cv cs
  eo : BesOwn e0 e1 W bv bs
  ch : c1 ≤ W.heap.size
  az : w.heap.size + 1 + 1 < s0 ∧ (s1 ≤ γ ∨ σ < s0) ∧ w.heap.size + 1 + 1 < e0 ∧ e1 ≤ γ ∧ (s1 ≤ e0 ∨ e1 ≤ s0) ∧ w.heap.size + 1 + 1 < c0 ∧ (c1 ≤ γ ∨ σ < c0) ∧ (s1 ≤ c0 ∨ c1 ≤ s0) ∧ γ < σ ∧ w.heap.size + 1 + 1 < γ

theorem Near.sets (b lo hi : Nat) : ∀ (vs : List Value) (o o0 n : Nat) (w : World), o0 ≤ o → o + vs.length ≤ o0 + n → Near b o0 n lo hi w (w.setCells b o vs)
  | [], _, _, _, w, _, _ => Near.refl _ _ _ _ _ w
  | v :: vs, o, o0, n, w, h1, h2 => by
    rw [List.length_cons] at h2
    exact (Near.set b o0 n lo hi w o v h1 (by omega)).trans (Near.sets b lo hi vs (o + 1) o0 n _ (by omega) (by omega))
/-- a whole service is written into its place -/
theorem SvsOwn.put {lo hi b off cap : Nat} {w : World} {L : List Sv} (h : SvsOwn lo hi w (.slice (some ⟨b, off, none⟩) L.length cap) L) {K : Nat} (hk : K < L.length) (y : Sv) (hy : SvSize y) :
    SvsOwn lo hi (w.setCells b (off + K * 13) (svL y)) (.slice (some ⟨b, off, none⟩) (L.set K y).length cap) (L.set K y) ∧ Touch lo hi w (w.setCells b (off + K * 13) (svL y)) ∧ w.there b (off + K * 13) 13 ∧ b < w.heap.size ∧ lo ≤ b ∧ b < hi := by
  rcases h with ⟨a, c, h, rfl⟩ | ⟨b', off', cap', c, X, h1, h2, h3, h4, h5, h6⟩
  · simp at hk
  · injection h1 with e1 e2 e3
    injection e1 with e1
    injection e1 with e4 e5
    subst e4 e5 e3
    have hr := h6.row K hk
    have hbc : b < c K := Nat.lt_of_lt_of_le h6.bc (h6.le (Nat.zero_le _) (by omega))
    have hrng := hr.2.rng
    have hth : w.there b (off + K * 13) 13 := fun j hj => by
      have hj2 : (svL (X K))[j]? = some ((svL (X K))[j]'(by rw [svL_len]; exact hj)) := List.getElem?_eq_getElem _
      refine ⟨?_, h6.frz _⟩
      rw [hrng j _ hj2]
      rfl
    have hn : Near b (off + K * 13) 13 (c K) (c (K + 1)) w (w.setCells b (off + K * 13) (svL y)) := Near.sets b _ _ (svL y) _ _ _ w (Nat.le_refl _) (by rw [svL_len]; omega)
    have hs := World.rangeAt_setCells_same w b (off + K * 13) (svL y) hth
    have hone : SvOne b (off + K * 13) (c K) (c (K + 1)) (w.setCells b (off + K * 13) (svL y)) y := ⟨hy, ⟨hs 0 _ rfl, hs 1 _ rfl, hs 2 _ rfl, hs 3 _ rfl, hs 4 _ rfl, hs 5 _ rfl, hs 6 _ rfl, hs 7 _ rfl, hs 8 _ rfl, hs 9 _ rfl, hs 10 _ rfl, hs 11 _ rfl, hs 12 _ rfl⟩⟩
    have hrow := h6.near hk hn hone
    refine ⟨Or.inr ⟨b, off, cap, c, _, rfl, ?_, by rw [List.length_set]; exact h3, by rw [List.length_set]; exact h4, fun i hi' => ?_, by rw [List.length_set]; exact hrow⟩, hn.wide h6.lt (by have := h6.low; omega) (Nat.le_trans (h6.le (by omega) (Nat.le_refl _)) h6.top) ⟨h6.low, h6.bh⟩, hth, h6.lt, h6.low, h6.bh⟩
    · intro e
      have := congrArg List.length e
      rw [List.length_set] at this
      simp at this
      exact h2 this
    · rw [List.length_set] at hi'
      rw [List.getElem_set]
      by_cases e : i = K
      · subst e; simp
      · rw [if_neg e, if_neg (fun e' => e e'.symm)]
        exact h5 i hi'
theorem Hs8.setS {w : World} {Q R X S : Array Value} {γ σ s0 s1 c0 c1 e0 e1 : Nat} {sv cv bv : Value} {ss : List Sv} {cs : List Cp} {bs : List Be} {W : World} (h : Hs8 w Q R X S γ σ s0 s1 c0 c1 e0 e1 sv cv bv ss cs bs W) (k : Nat) (u : Value) (hk : k < S.size) : Hs8 w Q R X (S.set k u) γ σ s0 s1 c0 c1 e0 e1 sv cv bv ss cs bs (W.setCell ⟨σ, k, none⟩ u) := by
  have az := h.az
  have ht := Touch.setCell σ (σ + 1) W ⟨σ, k, none⟩ u ⟨Nat.le_refl _, Nat.lt_succ_self _⟩
  exact ⟨h.hb.setCell (by simp only []; omega) _, h.fq.setFar (by simp only []; omega) _, h.fr.setFar (by simp only []; omega) _, h.fx.setFar (by simp only []; omega) _, h.fs.set u hk, h.so.touch ht (by omega), h.co.touch ht (by omega), h.eo.touch ht (by omega), Nat.le_trans h.ch ht.size, az⟩
theorem Hs8.put {w : World} {Q R X S : Array Value} {γ σ s0 s1 c0 c1 e0 e1 b off cap : Nat} {cv bv : Value} {ss : List Sv} {cs : List Cp} {bs : List Be} {W : World} (h : Hs8 w Q R X S γ σ s0 s1 c0 c1 e0 e1 (.slice (some ⟨b, off, none⟩) ss.length cap) cv bv ss cs bs W) {K : Nat} (hk : K < ss.length) (y : Sv) (hy : SvSize y) :
    Hs8 w Q R X S γ σ s0 s1 c0 c1 e0 e1 (.slice (some ⟨b, off, none⟩) (ss.set K y).length cap) cv bv (ss.set K y) cs bs (W.setCells b (off + K * 13) (svL y)) ∧ W.there b (off + K * 13) 13 := by
  obtain ⟨h1, h2, h3, h4, h5, h6⟩ := h.so.put hk y hy
  have az := h.az
  have hz := h.hb.size
  exact ⟨⟨h.hb.trans ((h2.under (by omega)).mono (by omega)), h.fq.touch h2 (by omega), h.fr.touch h2 (by omega), h.fx.touch h2 (by omega), h.fs.touch h2 (by omega), h1, h.co.touch h2 (by omega), h.eo.touch h2 (by omega), Nat.le_trans h.ch h2.size, az⟩, h3⟩
theorem Hs8.setX {w : World} {Q R X S : Array Value} {γ σ s0 s1 c0 c1 e0 e1 : Nat} {sv cv bv : Value} {ss : List Sv} {cs : List Cp} {bs : List Be} {W : World} (h : Hs8 w Q R X S γ σ s0 s1 c0 c1 e0 e1 sv cv bv ss cs bs W) (k : Nat) (u : Value) (hk : k < X.size) : Hs8 w Q R (X.set k u) S γ σ s0 s1 c0 c1 e0 e1 sv cv bv ss cs bs (W.setCell ⟨γ, k, none⟩ u) := by
  have az := h.az
  have ht := Touch.setCell γ (γ + 1) W ⟨γ, k, none⟩ u ⟨Nat.le_refl _, Nat.lt_succ_self _⟩
  exact ⟨h.hb.setCell (by simp only []; omega) _, h.fq.setFar (by simp only []; omega) _, h.fr.setFar (by simp only []; omega) _, h.fx.set u hk, h.fs.setFar (by simp only []; omega) _, h.so.touch ht (by omega), h.co.touch ht (by omega), h.eo.touch ht (by omega), Nat.le_trans h.ch ht.size, az⟩
theorem Hs8.on {w : World} {Q R X S : Array Value} {γ σ s0 s1 c0 c1 e0 e1 : Nat} {sv cv bv : Value} {ss : List Sv} {cs : List Cp} {bs : List Be} {W W' : World} (h : Hs8 w Q R X S γ σ s0 s1 c0 c1 e0 e1 sv cv bv ss cs bs W) (hb : Below W.heap.size W W') : Hs8 w Q R X S γ σ s0 s1 c0 c1 e0 e1 sv cv bv ss cs bs W' :=
  ⟨bt h.hb hb, h.fq.on hb, h.fr.on hb, h.fx.on hb, h.fs.on hb, h.so.below hb, h.co.below hb, h.eo.below hb, Nat.le_trans h.ch hb.size, h.az⟩
theorem Hs8.swap {w : World} {Q R X S : Array Value} {γ σ s0 s1 c0 c1 e0 e1 : Nat} {sv cv bv v' : Value} {ss L : List Sv} {cs : List Cp} {bs : List Be} {W W' : World} (h : Hs8 w Q R X S γ σ s0 s1 c0 c1 e0 e1 sv cv bv ss cs bs W) (hb : Below W.heap.size W W') (ho : SvsOwn W.heap.size W'.heap.size W' v' L) (hX : 1 < X.size) :
    Hs8 w Q R (X.set 1 v') S γ σ W.heap.size W'.heap.size c0 c1 e0 e1 v' cv bv L cs bs (W'.setCell ⟨γ, 1, none⟩ v') := by
  have az := h.az
  have h' := h.on hb
  have hl := h.fs.lt
  have hc := h.ch
  have ht := Touch.setCell γ (γ + 1) W' ⟨γ, 1, none⟩ v' ⟨Nat.le_refl _, Nat.lt_succ_self _⟩
  exact ⟨h'.hb.setCell (by simp only []; omega) _, h'.fq.setFar (by simp only []; omega) _, h'.fr.setFar (by simp only []; omega) _, h'.fx.set v' hX, h'.fs.setFar (by simp only []; omega) _, ho.touch ht (by omega), h'.co.touch ht (by omega), h'.eo.touch ht (by omega), Nat.le_trans h'.ch ht.size, by omega⟩
theorem Hs8.swapC {w : World} {Q R X S : Array Value} {γ σ s0 s1 c0 c1 e0 e1 : Nat} {sv cv bv v' : Value} {ss : List Sv} {cs L : List Cp} {bs : List Be} {W W' : World} (h : Hs8 w Q R X S γ σ s0 s1 c0 c1 e0 e1 sv cv bv ss cs bs W) (hs : s1 ≤ γ) (hb : Below W.heap.size W W') (ho : CpsOwn W.heap.size W'.heap.size W' v' L) (hX : 2 < X.size) :
    Hs8 w Q R (X.set 2 v') S γ σ s0 s1 W.heap.size W'.heap.size e0 e1 sv v' bv ss L bs (W'.setCell ⟨γ, 2, none⟩ v') := by
  have az := h.az
  have h' := h.on hb
  have hl := h.fs.lt
  have ht := Touch.setCell γ (γ + 1) W' ⟨γ, 2, none⟩ v' ⟨Nat.le_refl _, Nat.lt_succ_self _⟩
  exact ⟨h'.hb.setCell (by simp only []; omega) _, h'.fq.setFar (by simp only []; omega) _, h'.fr.setFar (by simp only []; omega) _, h'.fx.set v' hX, h'.fs.setFar (by simp only []; omega) _, h'.so.touch ht (by omega), ho.touch ht (by omega), h'.eo.touch ht (by omega), ht.size, by omega⟩
/-- what is told in the end -/
theorem end_res {w W : World} {s0 s1 c0 c1 e0 e1 : Nat} {sa ca ea : Option Addr} {sk ck ek : Nat} {Y : Sb} (hb : Below w.heap.size w W) (so : SvsOwn s0 s1 W (.slice sa Y.ss.length sk) Y.ss) (co : CpsOwn c0 c1 W (.slice ca Y.cs.length ck) Y.cs) (eo : BesOwn e0 e1 W (.slice ea Y.bs.length ek) Y.bs) (h1 : w.heap.size + 1 + 1 < s0) (h2 : w.heap.size + 1 + 1 < c0) (h3 : w.heap.size + 1 + 1 < e0) (u0 u1 u2 u3 : Value) :
    SbRes w (.returned (.tuple #[.agg #[.int .i64 Y.now, .slice sa Y.ss.length sk, .slice ca Y.cs.length ck, .slice ea Y.bs.length ek], .int .i64 0])) ((((W.setCell ⟨w.heap.size + 1 + 1, 0, none⟩ u0).setCell ⟨w.heap.size + 1 + 1, 1, none⟩ u1).setCell ⟨w.heap.size + 1 + 1, 2, none⟩ u2).setCell ⟨w.heap.size + 1 + 1, 3, none⟩ u3) Y 0 :=
  ⟨_, _, _, _, _, _, rfl, below_sets4 hb (by omega) _ _ _ _, ⟨((((so.setLow h1 _).setLow h1 _).setLow h1 _).setLow h1 _).at.mono (Nat.zero_le _), ((((co.setLow h2 _).setLow h2 _).setLow h2 _).setLow h2 _).at.mono (Nat.zero_le _), ((((eo.setLow h3 _).setLow h3 _).setLow h3 _).setLow h3 _).at.mono (Nat.zero_le _)⟩⟩

set_option maxRecDepth 100000 in
set_option maxHeartbeats 16000000 in
theorem applyEnd_any {w W : World} {γ σ s0 s1 c0 c1 e0 e1 K ub uo m0 ck ek ec : Nat} {ca eb ea : Option Addr} {nw v : Int} {A : Ac} {z : Sv} {ss : List Sv} {cs : List Cp} {bs : List Be} {Y : Sb} {u0 u1 u2 u5 u7 u8 u11 u12 u14 u15 u16 u17 u18 u19 u20 u21 u22 u23 u24 u25 u26 u27 u28 u29 u30 u31 u32 u33 u34 u35 u36 u37 u38 u39 u40 u41 u42 u43 u44 u45 u46 u47 u48 u49 u50 u51 u52 u53 u54 u55 u56 u57 u58 u59 u60 u61 u62 u63 u64 u65 u66 u67 u68 u69 u70 u71 u72 u73 u74 u75 u76 u77 u78 u79 u80 u81 u82 u83 u84 u85 u86 u87 u88 u89 u90 u91 u92 u93 u94 u95 u96 u97 u98 u99 u100 u101 u102 u103 u104 u105 u106 u107 u108 u109 u110 u111 u112 u113 u114 u115 u116 u117 u118 u119 u120 u121 u122 u123 u124 u125 u126 u127 u128 u129 u130 u131 u132 u133 u134 u135 u136 u137 u138 u139 u140 u141 u142 u143 u144 u145 u146 u147 u148 u149 u150 u151 u152 u153 u154 u155 u156 u157 u158 u159 u160 u161 u162 u163 u164 u165 u166 u167 u168 u169 u170 u171 u172 u173 u174 u175 u176 u177 u178 u179 u180 u181 u182 u183 u184 u185 u186 u187 u188 u189 u190 u191 u192 u193 u194 u195 u196 u197 u198 u199 u200 u201 u202 u203 u204 u205 u206 u207 u208 u209 u210 u211 u212 u213 u214 u215 u216 u217 u218 u219 u220 u221 u222 u223 u224 u225 u226 u227 u228 u229 u230 u231 u232 u233 u234 u235 u236 u237 u238 u239 u240 u241 u242 u243 u244 u245 u246 u247 u248 u249 u250 u251 u252 u253 u254 u255 u256 u257 u258 u259 u260 u261 u262 u263 u264 u265 u266 u267 u268 u269 u270 u271 u272 u273 u274 u275 u276 u277 u278 u279 u280 u281 u282 u283 u284 u285 u286 u287 u288 u289 u290 u291 u292 u293 u294 u295 u296 u297 u298 u299 u300 u301 u302 : Value}
    (HH : Hid (Hs8 w #[.string A.sv, .int .i64 A.sn, .int .i64 A.cr, .int .i64 A.wa, .int .i64 A.cl, .bool A.sc, .slice ea A.es.length ec, .bool A.dp] #[.int .i64 0, .slice none 0 0, .slice none 0 0, .slice none 0 0] #[.int .i64 nw, .slice (some ⟨ub, uo, none⟩) ss.length m0, .slice ca cs.length ck, .slice eb bs.length ek] #[.string z.nm, .int .i64 z.ve, .bool z.gn, .int .i64 z.im, .int .i64 z.wa, .int .i64 z.dn, .int .i64 z.ov, .int .i64 z.nx, .int .i64 z.pr, .int .i64 z.ls, .int .i64 z.ms, .int .i64 z.ld, .int .i64 z.cl] γ σ s0 s1 c0 c1 e0 e1 (.slice (some ⟨ub, uo, none⟩) ss.length m0) (.slice ca cs.length ck) (.slice eb bs.length ek) ss cs bs W)) (hk : K < ss.length) (hm : ss.length ≤ 1000000) (HZ : Hid (SvSize z))
    (HY : Hid (Y = ⟨v, if A.dp then (ss.set K { z with ve := v }).eraseIdx K else ss.set K { z with ve := v }, cs, bs⟩)) :
    Code.wp Tryz.prog (nthC 18 (Tryz.f20.body.getD .ret)) (bodyPost Tryz.prog Tryz.f20 fun e w' => SbRes w e w' Y 0) { tmps := #[u0, u1, u2, .pointer (some ⟨w.heap.size + 1, 0, none⟩), .pointer (some ⟨w.heap.size + 1 + 1, 0, none⟩), u5, .int .i64 K, u7, u8, .pointer (some ⟨γ, 0, none⟩), .int .i64 v, u11, u12, .pointer (some ⟨σ, 0, none⟩), u14, u15, u16, u17, u18, u19, u20, u21, u22, u23, u24, u25, u26, u27, u28, u29, u30, u31, u32, u33, u34, u35, u36, u37, u38, u39, u40, u41, u42, u43, u44, u45, u46, u47, u48, u49, u50, u51, u52, u53, u54, u55, u56, u57, u58, u59, u60, u61, u62, u63, u64, u65, u66, u67, u68, u69, u70, u71, u72, u73, u74, u75, u76, u77, u78, u79, u80, u81, u82, u83, u84, u85, u86, u87, u88, u89, u90, u91, u92, u93, u94, u95, u96, u97, u98, u99, u100, u101, u102, u103, u104, u105, u106, u107, u108, u109, u110, u111, u112, u113, u114, u115, u116, u117, u118, u119, u120, u121, u122, u123, u124, u125, u126, u127, u128, u129, u130, u131, u132, u133, u134, u135, u136, u137, u138, u139, u140, u141, u142, u143, u144, u145, u146, u147, u148, u149, u150, u151, u152, u153, u154, u155, u156, u157, u158, u159, u160, u161, u162, u163, u164, u165, u166, u167, u168, u169, u170, u171, u172, u173, u174, u175, u176, u177, u178, u179, u180, u181, u182, u183, u184, u185, u186, u187, u188, u189, u190, u191, u192, u193, u194, u195, u196, u197, u198, u199, u200, u201, u202, u203, u204, u205, u206, u207, u208, u209, u210, u211, u212, u213, u214, u215, u216, u217, u218, u219, u220, u221, u222, u223, u224, u225, u226, u227, u228, u229, u230, u231, u232, u233, u234, u235, u236, u237, u238, u239, u240, u241, u242, u243, u244, u245, u246, u247, u248, u249, u250, u251, u252, u253, u254, u255, u256, u257, u258, u259, u260, u261, u262, u263, u264, u265, u266, u267, u268, u269, u270, u271, u272, u273, u274, u275, u276, u277, u278, u279, u280, u281, u282, u283, u284, u285, u286, u287, u288, u289, u290, u291, u292, u293, u294, u295, u296, u297, u298, u299, u300, u301, u302], defers := [] } W := by
  generalize hQQ : bodyPost Tryz.prog Tryz.f20 _ = QQ
  have HQQ := hide hQQ
  clear hQQ
  simp only [nthC, Tryz.f20, Option.getD_some]
  have i0 : (0 : Int) ≤ (K : Int) := by omega
  have i1 : (K : Int) < (ss.length : Int) := by omega
  have az := HH.out.az
  have sc := HH.out.fs.cell 1
  have sf := HH.out.fs.free
  simp at sc
  go_upto_region 51 with fail
  clear sc sf
  obtain ⟨y, hy⟩ : ∃ y : Sv, y = { z with ve := v } := ⟨_, rfl⟩
  rw [← hy] at HY
  have H1 : Hid (Hs8 w #[.string A.sv, .int .i64 A.sn, .int .i64 A.cr, .int .i64 A.wa, .int .i64 A.cl, .bool A.sc, .slice ea A.es.length ec, .bool A.dp] #[.int .i64 0, .slice none 0 0, .slice none 0 0, .slice none 0 0] #[.int .i64 nw, .slice (some ⟨ub, uo, none⟩) ss.length m0, .slice ca cs.length ck, .slice eb bs.length ek] #[.string y.nm, .int .i64 y.ve, .bool y.gn, .int .i64 y.im, .int .i64 y.wa, .int .i64 y.dn, .int .i64 y.ov, .int .i64 y.nx, .int .i64 y.pr, .int .i64 y.ls, .int .i64 y.ms, .int .i64 y.ld, .int .i64 y.cl] γ σ s0 s1 c0 c1 e0 e1 (.slice (some ⟨ub, uo, none⟩) ss.length m0) (.slice ca cs.length ck) (.slice eb bs.length ek) ss cs bs (W.setCell ⟨σ, 1, none⟩ (.int .i64 v))) := by
    rw [hy]
    exact HH.out.setS 1 (.int .i64 v) (by simp)
  have HYZ : Hid (SvSize y) := ⟨by rw [hy]; exact HZ.out.s0⟩
  clear hy HH
  generalize hW1 : W.setCell _ _ = W1 at *
  clear hW1
  obtain ⟨h2, hth⟩ := H1.out.put hk y HYZ.out
  have HTH := hide hth
  have H2 := hide h2
  have sc := H1.out.fs.cell
  have xc := H1.out.fx.cell 1
  simp at xc
  clear h2 hth
  go_wp2_with (first
    | (refine wpList_store_mid rfl 88 (.tmp 284) (.tmp 283) rfl ub (uo + K * 13) (svL y).toArray rfl rfl HTH.out (by rw [List.size_toArray]; exact Sv_sizeI) (svL_one y) ?_; refine Hid.out ?_))
  clear sc xc HTH
  generalize hW2 : World.setCells W1 _ _ _ = W2 at *
  clear hW2
  unfold Hid
  obtain ⟨ss2, hss⟩ : ∃ L : List Sv, L = ss.set K y := ⟨_, rfl⟩
  have hl2 : ss2.length = ss.length := by rw [hss, List.length_set]
  rw [← hss] at H2 HY
  rw [← hl2] at H2
  have hk2 : K < ss2.length := by rw [hl2]; exact hk
  have hm2 : ss2.length ≤ 1000000 := by rw [hl2]; exact hm
  clear hss H1 hl2
  have q7 := H2.out.fq.cell 7
  simp at q7
  obtain ⟨dd, hdd⟩ : ∃ d, d = A.dp := ⟨_, rfl⟩
  rw [← hdd] at q7 HY
  cases dd with
  | false =>
    clear hdd
    have hYY : Hid (Y = ⟨v, ss2, cs, bs⟩) := by unfold Hid; rw [HY.out]; rfl
    have H3 := hide (H2.out.setX 0 (.int .i64 v) (by simp))
    have xc := H2.out.fx.cell 0
    have xf := H2.out.fx.free
    simp at xc
    go_upto_region 55 with fail
    clear xc xf q7
    generalize hW3 : W2.setCell _ _ = W3 at *
    clear hW3
    have xc := H3.out.fx.cell
    have r0 := H3.out.fr.cell
    have g0 := H3.out.fr.free
    simp at xc
    go_wp2
    rw [← HQQ.out]
    refine bodyPost_ret (v := .tuple #[.agg #[.int .i64 v, .slice (some ⟨ub, uo, none⟩) ss2.length m0, .slice ca cs.length ck, .slice eb bs.length ek], .int .i64 0]) (by simp [results, Tryz.results20, go_sem, r0]) rfl ?_
    simp only [hYY.out]
    exact end_res (Y := ⟨v, ss2, cs, bs⟩) H3.out.hb H3.out.so H3.out.co H3.out.eo (by omega) (by omega) (by omega) _ _ _ _
  | true =>
    clear hdd
    have hYY : Hid (Y = ⟨v, ss2.eraseIdx K, cs, bs⟩) := by unfold Hid; rw [HY.out]; rfl
    go_upto_region 53 with fail
    refine del53 (hide H2.out.fx) (hide (H2.out.so.at.mono (Nat.zero_le _))) hk2 hm2 (hide ?_)
    intro W' v' x287 x288 x289 x290 x291 x292 x293 x294 x295 x296 x297 x298 x299 hb ho
    obtain ⟨sa, sk, rfl⟩ := ho.form
    have az2 := hb.size
    have hgl := H2.out.fs.lt
    have H3 : Hid (Hs8 w #[.string A.sv, .int .i64 A.sn, .int .i64 A.cr, .int .i64 A.wa, .int .i64 A.cl, .bool A.sc, .slice ea A.es.length ec, .bool A.dp] #[.int .i64 0, .slice none 0 0, .slice none 0 0, .slice none 0 0] #[.int .i64 nw, .slice sa (ss2.eraseIdx K).length sk, .slice ca cs.length ck, .slice eb bs.length ek] #[.string y.nm, .int .i64 y.ve, .bool y.gn, .int .i64 y.im, .int .i64 y.wa, .int .i64 y.dn, .int .i64 y.ov, .int .i64 y.nx, .int .i64 y.pr, .int .i64 y.ls, .int .i64 y.ms, .int .i64 y.ld, .int .i64 y.cl] γ σ W2.heap.size W'.heap.size c0 c1 e0 e1 (.slice sa (ss2.eraseIdx K).length sk) (.slice ca cs.length ck) (.slice eb bs.length ek) (ss2.eraseIdx K) cs bs (W'.setCell ⟨γ, 1, none⟩ (.slice sa (ss2.eraseIdx K).length sk))) := H2.out.swap hb ho (by simp)
    clear H2 hb ho q7 az
    have az := H3.out.az
    generalize hW3 : W'.setCell _ _ = W3 at *
    clear hW3 az2 hgl
    have H4 := hide (H3.out.setX 0 (.int .i64 v) (by simp))
    have xc := H3.out.fx.cell 0
    have xf := H3.out.fx.free
    simp at xc
    simp only [Exit.then]
    go_upto_region 55 with fail
    clear xc xf H3
    generalize hW4 : W3.setCell _ _ = W4 at *
    clear hW4
    have xc := H4.out.fx.cell
    have r0 := H4.out.fr.cell
    have g0 := H4.out.fr.free
    simp at xc
    go_wp2
    rw [← HQQ.out]
    refine bodyPost_ret (v := .tuple #[.agg #[.int .i64 v, .slice sa (ss2.eraseIdx K).length sk, .slice ca cs.length ck, .slice eb bs.length ek], .int .i64 0]) (by simp [results, Tryz.results20, go_sem, r0]) rfl ?_
    simp only [hYY.out]
    exact end_res (Y := ⟨v, ss2.eraseIdx K, cs, bs⟩) H4.out.hb H4.out.so H4.out.co H4.out.eo (by omega) (by omega) (by omega) _ _ _ _
end Go.Proofs.YtaogpeebencnoaaGreatDoor
