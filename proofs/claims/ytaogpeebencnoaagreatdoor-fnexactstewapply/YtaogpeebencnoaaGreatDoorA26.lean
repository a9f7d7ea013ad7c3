import Derived.Test.YtaogpeebencnoaaGreatDoorA24
namespace Go.Proofs.YtaogpeebencnoaaGreatDoor
open Go.RowKit Go.Deep

/-- what is left of a row of statements behind the first n -/
def nthC : Nat → Code → Code
  | 0, c => c
  | n + 1, .seq _ b => nthC n b
  | _ + 1, c => c
theorem ownsB_on {base : Nat} {e : TypeId} {sz n : Nat} {W W' : World} {v : Value} {cs : List Value} (h : W.ownsRow base e sz v n cs) (hb : Below W.heap.size W W') : W'.ownsRow base e sz v n cs := by
  refine ⟨h.1, ?_⟩
  rcases h.2 with h | ⟨g, cap, cur, h1, h2, h3, h4⟩
  · exact Or.inl h
  · exact Or.inr ⟨g, cap, cur, h1, h2, (hb.block g (Array.getElem?_eq_some_iff.1 h3).1).trans h3, h4⟩
/-- a book's box and a copy's, above a world -/
abbrev HeldP (W0 : World) (b1 : Nat) (cs1 : Array Value) (b2 : Nat) (cs2 : Array Value) (W : World) : Prop :=
  (∀ i, W.cell? ⟨b1, i, none⟩ = cs1[i]?) ∧ (∀ i, W.cell? ⟨b2, i, none⟩ = cs2[i]?) ∧ Hid (Below W0.heap.size W0 W ∧ b1 < W0.heap.size ∧ b2 < W0.heap.size)
theorem HeldP.drew {W0 : World} {b1 b2 : Nat} {cs1 cs2 : Array Value} (h1 : Box W0 b1 cs1) (h2 : Box W0 b2 cs2) : HeldP W0 b1 cs1 b2 cs2 W0.drew := ⟨h1.cell, h2.cell, (Below.refl _ _).drew, h1.lt, h2.lt⟩
theorem HeldP.on {W0 W W' : World} {b1 b2 : Nat} {cs1 cs2 : Array Value} (h : HeldP W0 b1 cs1 b2 cs2 W) (hb : Below W0.heap.size W W') : HeldP W0 b1 cs1 b2 cs2 W' := by
  obtain ⟨h1, h2, h3⟩ := h
  obtain ⟨h4, l1, l2⟩ := h3.out
  exact ⟨fun i => (hb.cell (p := ⟨b1, i, none⟩) l1).trans (h1 i), fun i => (hb.cell (p := ⟨b2, i, none⟩) l2).trans (h2 i), h4.trans hb, l1, l2⟩
theorem HeldP.new {W0 W : World} {b1 b2 : Nat} {cs1 cs2 : Array Value} (h : HeldP W0 b1 cs1 b2 cs2 W) (o : Obj) : HeldP W0 b1 cs1 b2 cs2 (W.alloc o) := h.on ((one_al W o).mono h.2.2.out.1.size)
theorem HeldP.al {W0 W : World} {b1 b2 : Nat} {cs1 cs2 : Array Value} (h : HeldP W0 b1 cs1 b2 cs2 W.drew) (o : Obj) : HeldP W0 b1 cs1 b2 cs2 (W.alloc o).drew := by
  have h' : HeldP W0 b1 cs1 b2 cs2 (W.drew.alloc o) := h.new o
  exact h'
theorem below_al {W : World} (o : Obj) : Below W.heap.size W (W.alloc o).drew := (one_al W o).drew
theorem below_al2 {W : World} (o o' : Obj) : Below W.heap.size W ((W.alloc o).alloc o').drew := ((one_al W o).alloc (by simp) o').drew
theorem owns_last {base : Nat} (W : World) (g : Nat) (e : TypeId) (sz : Nat) (hg : W.heap.size = g) (hb : base ≤ g) : (W.alloc (.cells #[] e)).drew.ownsRow base e sz (.slice (some ⟨g, 0, none⟩) 0 0) 0 [] := World.ownsRow.drew (ownsB_made W g e sz hg hb)
theorem owns_first {base : Nat} (W : World) (e : TypeId) (sz : Nat) (hb : base ≤ W.heap.size) (o : Obj) : ((W.alloc (.cells #[] e)).alloc o).drew.ownsRow base e sz (.slice (some ⟨W.heap.size, 0, none⟩) 0 0) 0 [] := World.ownsRow.drew (ownsB_on (ownsB_made W _ e sz rfl hb) (one_al _ _))
theorem step_append_up {P : Program} {w : World} {ops : Array Oper} {o : Oper} {a : Act} {K : Act → World → Prop} {Q : Exit → Act → World → Prop} {E : Prop} (W : World) (v : Value) (n : Nat) (xs : List Value) (ao : Option Addr) (m c : Nat) (news : List Value) (hgd : o.guard = none) (s x : Operand) (t : TypeId)
    (ho : o.op = .call { callee := .builtin .append, args := #[s, x], argTypes := #[t, t] })
    (e : TypeId) (i : TypeInfo) (z : Value) (size bytes : Nat) (ht : P.underlying t = some (.slice e)) (hi : P.info? e = some i) (hz : i.zero = some z)
    (hsize : i.size = size) (hby : i.bytes = bytes) (hzs : z.cells.size = size) (hsz : 0 < size)
    (hs : a.eval s = v) (hown : w.ownsRow W.heap.size e size v n xs)
    (hx : a.eval x = .slice ao m c) (hl : news.length = m * size) (hm : ao = none → m = 0) (hup : Below W.heap.size W w) (hnews : ∀ ad, ao = some ad → ∀ j u, news[j]? = some u → w.cell? (ad.add j) = some u) (h1 : ∀ u ∈ news, u.oneCell' = true)
    (h63 : n + m ≤ maxLen) (hbytes : (n + m) * bytes ≤ 140737488355328)
    (h : ∀ v' w', w'.ownsRow W.heap.size e size v' (n + m) (xs ++ news) → Below W.heap.size w w' → Below W.heap.size W w' → (∀ k, k < w.heap.size → some k ≠ v.ownBlock → w'.heap[k]? = w.heap[k]?) → K (a.put o.dst v') w') :
    if Region.wanted o (yielded ops a.tmps) = true then Oper.wp P o a w K Q else E :=
  step_append_any hgd s x t ho W.heap.size e i z size bytes ht hi hz hsize hby hzs hsz v n xs hs hown ao m c news hx hl hm hnews h1 h63 hbytes hup.size fun v' w' h2 h3 =>
    h v' w' h2 (ownsB_grown hown h3 hup.size) (hup.trans (ownsB_grown hown h3 hup.size)) fun k hk hne => h3.block k hk hne
theorem cells_at {W : World} {g : Nat} {cs : Array Value} {L : List Value} (h : Box W g cs) (e : cs = L.toArray) : ∀ ad, some (⟨g, 0, none⟩ : Addr) = some ad → ∀ j u, L[j]? = some u → W.cell? (ad.add j) = some u := fun ad he j u hj => by
  cases he
  rw [Go.WideShapes.add_plain, Nat.zero_add, h.cell j, e, ← hj]
  simp
theorem cpL_one1 (c : Cp) : ∀ u ∈ cpL c, u.oneCell' = true := fun u hu => cpL_one [c] u (by simpa [flatV] using hu)
theorem Box.of_block {w w' : World} {β : Nat} {cs : Array Value} (h : Box w β cs) (e : w'.heap[β]? = w.heap[β]?) : Box w' β cs :=
  ⟨by have := h.lt; rw [Array.getElem?_eq_getElem this] at e; exact (Array.getElem?_eq_some_iff.1 e).1, fun i => (World.cell?_of_block (a := ⟨β, i, none⟩) e).trans (h.cell i), fun i => (World.frozen?_of_block (a := ⟨β, i, none⟩) e).trans (h.free i)⟩
theorem owns_slice {w : World} {base : Nat} {e : TypeId} {size : Nat} {v : Value} {n : Nat} {xs : List Value} (h : w.ownsRow base e size v n xs) : ∃ a m c, v = .slice a m c := by
  rcases h.2 with ⟨rfl, -⟩ | ⟨g, cap, cur, rfl, -⟩
  · exact ⟨_, _, _, rfl⟩
  · exact ⟨_, _, _, rfl⟩
theorem cps_cap {lo : Nat} {w : World} {ca : Option Addr} {ck : Nat} {L : List Cp} (h : CpsAt lo w (.slice ca L.length ck) L) : L.length ≤ ck := by
  rcases h with ⟨_, _, _, h⟩ | ⟨_, _, cap, h, _, _, _, _, hc, _⟩
  · rw [h]; simp
  · injection h with _ _ h
    omega

set_option maxRecDepth 100000 in
set_option maxHeartbeats 16000000 in
theorem ins48 {Q : Exit → Act → World → Prop} {W : World} {γ ρ : Nat} {xn sv bv : Value} {b off ck n : Nat} {th : Option Nat} {L : List Cp} {c : Cp} {u0 u1 u2 u3 u4 u5 u6 u7 u8 u10 u11 u12 u13 u14 u15 u18 u19 u20 u21 u22 u23 u24 u25 u26 u27 u28 u29 u30 u31 u32 u33 u34 u35 u36 u37 u38 u39 u40 u41 u42 u43 u44 u45 u46 u47 u48 u49 u50 u51 u52 u53 u54 u55 u56 u57 u58 u59 u60 u61 u62 u63 u64 u65 u66 u67 u68 u69 u70 u71 u72 u73 u74 u75 u76 u77 u78 u79 u80 u81 u82 u83 u84 u85 u86 u87 u88 u89 u90 u91 u92 u93 u94 u95 u96 u97 u98 u99 u100 u101 u102 u103 u104 u105 u106 u107 u108 u109 u110 u111 u112 u113 u114 u115 u116 u117 u118 u119 u120 u121 u122 u123 u124 u125 u126 u127 u128 u129 u130 u131 u132 u133 u134 u135 u136 u137 u138 u139 u140 u141 u142 u143 u144 u145 u146 u147 u148 u149 u150 u151 u152 u153 u154 u155 u156 u157 u158 u159 u160 u161 u162 u163 u164 u165 u166 u167 u168 u169 u170 u171 u172 u173 u174 u175 u176 u177 u178 u179 u180 u181 u182 u183 u184 u185 u186 u187 u188 u189 u190 u191 u192 u193 u194 u195 u196 u197 u198 u199 u200 u201 u202 u203 u204 u205 u206 u207 u208 u209 u210 u211 u212 u213 u214 u215 u216 u217 u218 u219 u220 u221 u222 u223 u224 u225 u226 u227 u228 u229 u230 u231 u232 u233 u234 u235 u236 u237 u238 u239 u240 u241 u242 u243 u244 u245 u246 u247 u248 u249 u250 u251 u252 u253 u254 u255 u256 u257 u258 u259 u260 u261 u262 u263 u264 u265 u266 u267 u268 u269 u270 u271 u272 u273 u274 u275 u276 u277 u278 u279 u280 u281 u282 u283 u284 u285 u286 u287 u288 u289 u290 u291 u292 u293 u294 u295 u296 u297 u298 u299 u300 u301 u302 : Value}
    (HX : Hid (Box W γ #[xn, sv, .slice (some ⟨b, off, th⟩) L.length ck, bv])) (HC : Hid (Box W ρ #[.string c.se, .int .i64 c.nu, .int .i64 c.ve, .int .i64 c.im, .int .i64 c.st, .bool c.en, .string c.be])) (HL : Hid (CpsAt 0 W (.slice (some ⟨b, off, th⟩) L.length ck) L)) (hn : n ≤ L.length) (hm : L.length ≤ 1000000) (HZ : Hid (CpSize c))
    (HQ : Hid (∀ (W' : World) (v' : Value) (x259 x260 x261 x262 x263 x264 x265 x266 x267 x268 x269 x270 x271 x272 x273 : Value), Below W.heap.size W W' → CpsOwn W.heap.size W'.heap.size W' v' (L.take n ++ c :: L.drop n) → Q .normal { tmps := #[u0, u1, u2, u3, u4, u5, u6, u7, u8, .pointer (some ⟨γ, 0, none⟩), u10, u11, u12, u13, u14, u15, .pointer (some ⟨ρ, 0, none⟩), .int .i64 n, u18, u19, u20, u21, u22, u23, u24, u25, u26, u27, u28, u29, u30, u31, u32, u33, u34, u35, u36, u37, u38, u39, u40, u41, u42, u43, u44, u45, u46, u47, u48, u49, u50, u51, u52, u53, u54, u55, u56, u57, u58, u59, u60, u61, u62, u63, u64, u65, u66, u67, u68, u69, u70, u71, u72, u73, u74, u75, u76, u77, u78, u79, u80, u81, u82, u83, u84, u85, u86, u87, u88, u89, u90, u91, u92, u93, u94, u95, u96, u97, u98, u99, u100, u101, u102, u103, u104, u105, u106, u107, u108, u109, u110, u111, u112, u113, u114, u115, u116, u117, u118, u119, u120, u121, u122, u123, u124, u125, u126, u127, u128, u129, u130, u131, u132, u133, u134, u135, u136, u137, u138, u139, u140, u141, u142, u143, u144, u145, u146, u147, u148, u149, u150, u151, u152, u153, u154, u155, u156, u157, u158, u159, u160, u161, u162, u163, u164, u165, u166, u167, u168, u169, u170, u171, u172, u173, u174, u175, u176, u177, u178, u179, u180, u181, u182, u183, u184, u185, u186, u187, u188, u189, u190, u191, u192, u193, u194, u195, u196, u197, u198, u199, u200, u201, u202, u203, u204, u205, u206, u207, u208, u209, u210, u211, u212, u213, u214, u215, u216, u217, u218, u219, u220, u221, u222, u223, u224, u225, u226, u227, u228, u229, u230, u231, u232, u233, u234, u235, u236, u237, u238, u239, u240, u241, u242, u243, u244, u245, u246, u247, u248, u249, u250, u251, u252, u253, u254, u255, u256, u257, u258, x259, x260, x261, x262, x263, x264, x265, x266, x267, x268, x269, x270, x271, x272, x273, u274, u275, u276, u277, u278, u279, u280, u281, u282, u283, u284, u285, u286, u287, u288, u289, u290, u291, u292, u293, u294, u295, u296, u297, u298, u299, u300, u301, u302], defers := [] } (W'.setCell ⟨γ, 2, none⟩ v'))) :
    Code.wp Tryz.prog (selC [false, true, false, false, true, false, false, true, true, true, false] (nthC 17 (Tryz.f20.body.getD .ret))) Q { tmps := #[u0, u1, u2, u3, u4, u5, u6, u7, u8, .pointer (some ⟨γ, 0, none⟩), u10, u11, u12, u13, u14, u15, .pointer (some ⟨ρ, 0, none⟩), .int .i64 n, u18, u19, u20, u21, u22, u23, u24, u25, u26, u27, u28, u29, u30, u31, u32, u33, u34, u35, u36, u37, u38, u39, u40, u41, u42, u43, u44, u45, u46, u47, u48, u49, u50, u51, u52, u53, u54, u55, u56, u57, u58, u59, u60, u61, u62, u63, u64, u65, u66, u67, u68, u69, u70, u71, u72, u73, u74, u75, u76, u77, u78, u79, u80, u81, u82, u83, u84, u85, u86, u87, u88, u89, u90, u91, u92, u93, u94, u95, u96, u97, u98, u99, u100, u101, u102, u103, u104, u105, u106, u107, u108, u109, u110, u111, u112, u113, u114, u115, u116, u117, u118, u119, u120, u121, u122, u123, u124, u125, u126, u127, u128, u129, u130, u131, u132, u133, u134, u135, u136, u137, u138, u139, u140, u141, u142, u143, u144, u145, u146, u147, u148, u149, u150, u151, u152, u153, u154, u155, u156, u157, u158, u159, u160, u161, u162, u163, u164, u165, u166, u167, u168, u169, u170, u171, u172, u173, u174, u175, u176, u177, u178, u179, u180, u181, u182, u183, u184, u185, u186, u187, u188, u189, u190, u191, u192, u193, u194, u195, u196, u197, u198, u199, u200, u201, u202, u203, u204, u205, u206, u207, u208, u209, u210, u211, u212, u213, u214, u215, u216, u217, u218, u219, u220, u221, u222, u223, u224, u225, u226, u227, u228, u229, u230, u231, u232, u233, u234, u235, u236, u237, u238, u239, u240, u241, u242, u243, u244, u245, u246, u247, u248, u249, u250, u251, u252, u253, u254, u255, u256, u257, u258, u259, u260, u261, u262, u263, u264, u265, u266, u267, u268, u269, u270, u271, u272, u273, u274, u275, u276, u277, u278, u279, u280, u281, u282, u283, u284, u285, u286, u287, u288, u289, u290, u291, u292, u293, u294, u295, u296, u297, u298, u299, u300, u301, u302], defers := [] } W := by
  simp only [nthC, selC, Tryz.f20, Option.getD_some]
  obtain ⟨i1, hi1, hz1, hy1, hx1⟩ := info_parts Tryz.info92
  have HI1 := hide (And.intro hi1 (And.intro hz1 (And.intro hy1 hx1)))
  have hcap := cps_cap HL.out
  have n0 : (0 : Int) ≤ (n : Int) := by omega
  have n1 : (n : Int) ≤ (ck : Int) := by omega
  have n2 : (n : Int) ≤ (L.length : Int) := by omega
  have n3 : n ≤ ck := by omega
  clear hi1 hz1 hy1 hx1
  have HN1 : Hid (∀ W', Below W.heap.size W W' → ∀ j u, (flatV cpL (L.take n))[j]? = some u → W'.cell? ((⟨b, off, th⟩ : Addr).add j) = some u) := fun W' hb j u hj => HL.out.news hb _ rfl j u (flatV_take hj)
  obtain ⟨D, hD, HN2⟩ : ∃ D : Addr, (if ck = n then some (⟨b, off, th⟩ : Addr) else some ((⟨b, off, th⟩ : Addr).add (n * 7))) = some D ∧ Hid (∀ W', Below W.heap.size W W' → ∀ j u, (flatV cpL (L.drop n))[j]? = some u → W'.cell? (D.add j) = some u) := by
    by_cases hc : ck = n
    · refine ⟨⟨b, off, th⟩, by simp [hc], fun W' _ j u hj => ?_⟩
      rw [List.drop_of_length_le (by omega)] at hj
      simp [flatV] at hj
    · refine ⟨(⟨b, off, th⟩ : Addr).add (n * 7), by simp [hc], fun W' hb j u hj => ?_⟩
      have h0 : 0 < L.length := by
        rcases Nat.eq_zero_or_pos L.length with h | h
        · rw [List.drop_of_length_le (by omega)] at hj
          simp [flatV] at hj
        · exact h
      obtain ⟨b', off', he, -, -, -⟩ := HL.out.full' h0
      cases he
      have := HL.out.news hb _ rfl _ u (flatV_drop cpL_len hn hj)
      rw [Go.WideShapes.add_plain] at this ⊢
      rw [Go.WideShapes.add_plain, ← this, Nat.add_assoc]
  have HL1 : Hid ((flatV cpL (L.take n)).length = n * 7) := by unfold Hid; rw [flatV_len cpL_len, List.length_take, Nat.min_eq_left hn]
  have HL2 : Hid ((flatV cpL (L.drop n)).length = (L.length - n) * 7) := by unfold Hid; rw [flatV_len cpL_len, List.length_drop]
  have FIN : ∀ {w5 : World} {v5 : Value}, w5.ownsRow W.heap.size 92 7 v5 (0 + n + 1 + (L.length - n)) ((([] ++ flatV cpL (L.take n)) ++ cpL c) ++ flatV cpL (L.drop n)) → CpsOwn W.heap.size w5.heap.size w5 v5 (L.take n ++ c :: L.drop n) := fun {w5 v5} h => by
    have e1 : (L.take n ++ c :: L.drop n).length = 0 + n + 1 + (L.length - n) := by rw [List.length_append, List.length_cons, List.length_take, List.length_drop]; omega
    have e2 : flatV cpL (L.take n ++ c :: L.drop n) = ([] ++ flatV cpL (L.take n)) ++ cpL c ++ flatV cpL (L.drop n) := by rw [flatV_app, flatV, List.nil_append, List.append_assoc]
    rw [← e1, ← e2] at h
    refine NewRow.Cps (Or.inr h) (by rw [e1]; unfold maxLen; omega) (fun i hi => ?_)
    have hz := HL.out.sizes
    rcases List.mem_append.1 (List.getElem_mem hi) with hm | hm
    · obtain ⟨k, hk, e⟩ := List.getElem_of_mem (List.mem_of_mem_take hm)
      rw [← e]; exact hz k hk
    · rcases List.mem_cons.1 hm with e | hm
      · rw [e]; exact HZ.out
      · obtain ⟨k, hk, e⟩ := List.getElem_of_mem (List.mem_of_mem_drop hm)
        rw [← e]; exact hz k hk
  refine Code.wp_mono NoPanic.imp ?_
  refine wp_region_E (S := HeldP W γ #[xn, sv, .slice (some ⟨b, off, th⟩) L.length ck, bv] ρ #[.string c.se, .int .i64 c.nu, .int .i64 c.ve, .int .i64 c.im, .int .i64 c.st, .bool c.en, .string c.be]) 15 (by kernel_rfl) (HeldP.drew HX.out HC.out) (fun hHeld => ?_)
  refine wpAnyE_take [2, 4, 5, 8, 13, 15] (i := 1) (v := .pointer (some ⟨γ, 2, none⟩)) rfl (by kernel_rfl) (by kernel_rfl) (by kernel_rfl) (by kernel_rfl) (fun _ _ _ h => h) (Or.inl ⟨by rfl, fun W hW => by obtain ⟨h1, h2, h3⟩ := hW; go_simp⟩) hHeld ?_
  try simp only [Act.put, List.getElem_toArray, List.getElem_cons_succ, List.getElem_cons_zero, List.setIfInBounds_toArray, List.set_cons_zero, List.set_cons_succ]
  refine wpAnyE_take [4, 5, 8, 13, 15] (i := 2) (v := .slice (some ⟨b, off, th⟩) L.length ck) rfl (by kernel_rfl) (by kernel_rfl) (by kernel_rfl) (by kernel_rfl) (fun _ _ _ h => h) (Or.inl ⟨by rfl, fun W hW => by obtain ⟨h1, h2, h3⟩ := hW; go_simp⟩) hHeld ?_
  try simp only [Act.put, List.getElem_toArray, List.getElem_cons_succ, List.getElem_cons_zero, List.setIfInBounds_toArray, List.set_cons_zero, List.set_cons_succ]
  refine wpAnyE_take [4, 5, 8, 13, 15] (i := 3) (v := .int .i64 n) rfl (by kernel_rfl) (by kernel_rfl) (by kernel_rfl) (by kernel_rfl) (fun _ _ _ h => h) (Or.inl ⟨by rfl, fun W hW => by obtain ⟨h1, h2, h3⟩ := hW; go_simp⟩) hHeld ?_
  try simp only [Act.put, List.getElem_toArray, List.getElem_cons_succ, List.getElem_cons_zero, List.setIfInBounds_toArray, List.set_cons_zero, List.set_cons_succ]
  refine wpAnyE_take [5, 8, 13, 15] (i := 4) (v := .slice (some ⟨b, off, th⟩) n ck) rfl (by kernel_rfl) (by kernel_rfl) (by kernel_rfl) (by kernel_rfl) (fun _ _ _ h => h) (Or.inl ⟨by rfl, fun W hW => by obtain ⟨h1, h2, h3⟩ := hW; go_simp⟩) hHeld ?_
  try simp only [Act.put, List.getElem_toArray, List.getElem_cons_succ, List.getElem_cons_zero, List.setIfInBounds_toArray, List.set_cons_zero, List.set_cons_succ]
  refine wpAnyE_take [7, 8, 13, 15] (i := 6) (v := .agg #[.string c.se, .int .i64 c.nu, .int .i64 c.ve, .int .i64 c.im, .int .i64 c.st, .bool c.en, .string c.be]) rfl (by kernel_rfl) (by kernel_rfl) (by kernel_rfl) (by kernel_rfl) (fun _ _ _ h => h) (Or.inl ⟨by rfl, fun W hW => by obtain ⟨h1, h2, h3⟩ := hW; go_simp⟩) hHeld ?_
  try simp only [Act.put, List.getElem_toArray, List.getElem_cons_succ, List.getElem_cons_zero, List.setIfInBounds_toArray, List.set_cons_zero, List.set_cons_succ]
  refine wpAnyE_take [10, 12, 13, 15] (i := 9) (v := .pointer (some ⟨γ, 2, none⟩)) rfl (by kernel_rfl) (by kernel_rfl) (by kernel_rfl) (by kernel_rfl) (fun _ _ _ h => h) (Or.inl ⟨by rfl, fun W hW => by obtain ⟨h1, h2, h3⟩ := hW; go_simp⟩) hHeld ?_
  try simp only [Act.put, List.getElem_toArray, List.getElem_cons_succ, List.getElem_cons_zero, List.setIfInBounds_toArray, List.set_cons_zero, List.set_cons_succ]
  refine wpAnyE_take [12, 13, 15] (i := 10) (v := .slice (some ⟨b, off, th⟩) L.length ck) rfl (by kernel_rfl) (by kernel_rfl) (by kernel_rfl) (by kernel_rfl) (fun _ _ _ h => h) (Or.inl ⟨by rfl, fun W hW => by obtain ⟨h1, h2, h3⟩ := hW; go_simp⟩) hHeld ?_
  try simp only [Act.put, List.getElem_toArray, List.getElem_cons_succ, List.getElem_cons_zero, List.setIfInBounds_toArray, List.set_cons_zero, List.set_cons_succ]
  refine wpAnyE_take [12, 13, 15] (i := 11) (v := .int .i64 n) rfl (by kernel_rfl) (by kernel_rfl) (by kernel_rfl) (by kernel_rfl) (fun _ _ _ h => h) (Or.inl ⟨by rfl, fun W hW => by obtain ⟨h1, h2, h3⟩ := hW; go_simp⟩) hHeld ?_
  try simp only [Act.put, List.getElem_toArray, List.getElem_cons_succ, List.getElem_cons_zero, List.setIfInBounds_toArray, List.set_cons_zero, List.set_cons_succ]
  refine wpAnyE_take [13, 15] (i := 12) (v := .slice (some D) (L.length - n) (ck - n)) rfl (by kernel_rfl) (by kernel_rfl) (by kernel_rfl) (by kernel_rfl) (fun _ _ _ h => h) (Or.inl ⟨by rfl, fun W hW => by obtain ⟨h1, h2, h3⟩ := hW; go_simp⟩) hHeld ?_
  try simp only [Act.put, List.getElem_toArray, List.getElem_cons_succ, List.getElem_cons_zero, List.setIfInBounds_toArray, List.set_cons_zero, List.set_cons_succ]
  refine wpAnyE_two (i := 0) (i' := 7) (by kernel_rfl) rfl rfl (fun K hK => ?_) (fun K hK => ?_)
  · go_simp
    refine hK.out _ _ (fun _ => HeldP.al hHeld _) (fun hHx => ?_)
    clear hHeld
    have hHeld := hHx (by decide)
    clear hK K hHx
    try simp only [Act.put, List.getElem_toArray, List.getElem_cons_succ, List.getElem_cons_zero, List.setIfInBounds_toArray, List.set_cons_zero, List.set_cons_succ]
    refine wpAnyE_two (i := 5) (i' := 7) (by kernel_rfl) rfl rfl (fun K hK => ?_) (fun K hK => ?_)
    · refine step_append_up W (.slice (some ⟨W.heap.size, 0, none⟩) 0 0) 0 [] (some ⟨b, off, th⟩) n ck (flatV cpL (L.take n)) (by rfl) (.tmp 259) (.tmp 263) 33 (by rfl) 92 i1 (.agg #[.string ⟨#[]⟩, .int .i64 0, .int .i64 0, .int .i64 0, .int .i64 0, .bool false, .string ⟨#[]⟩]) 7 72 Tryz.underlying33 HI1.out.1 HI1.out.2.1 HI1.out.2.2.1 HI1.out.2.2.2 (by rfl) (by decide) (by rfl) (owns_last W _ _ 7 rfl (Nat.le_refl _)) (by rfl) HL1.out (fun e => by cases e) (below_al _) (fun ad he => by cases he; exact HN1.out _ (below_al _)) (cpL_one _) (by unfold maxLen; omega) (by omega) ?_
      intro v3 w3 hown3 hb3 hB3 hk3
      refine hK.out _ _ (fun _ => HeldP.on hHeld hb3) (fun hHx => ?_)
      clear hHeld
      have hHeld := hHx (by decide)
      clear hK K hHx
      try simp only [Act.put, List.getElem_toArray, List.getElem_cons_succ, List.getElem_cons_zero, List.setIfInBounds_toArray, List.set_cons_zero, List.set_cons_succ]
      refine wpAnyE_one (i := 7) (by kernel_rfl) rfl (fun K hK => ?_)
      go_simp
      refine hK.out _ _ (fun _ => HeldP.new hHeld _) (fun hHx => ?_)
      clear hHeld
      have hHeld := hHx (by decide)
      clear hK K hHx
      try simp only [Act.put, List.getElem_toArray, List.getElem_cons_succ, List.getElem_cons_zero, List.setIfInBounds_toArray, List.set_cons_zero, List.set_cons_succ]
      refine wpAnyE_one (i := 8) (by kernel_rfl) rfl (fun K hK => ?_)
      refine step_append_up W v3 (0 + n) ([] ++ flatV cpL (L.take n)) (some ⟨w3.heap.size, 0, none⟩) 1 1 (cpL c) (by rfl) (.tmp 264) (.tmp 266) 33 (by rfl) 92 i1 (.agg #[.string ⟨#[]⟩, .int .i64 0, .int .i64 0, .int .i64 0, .int .i64 0, .bool false, .string ⟨#[]⟩]) 7 72 Tryz.underlying33 HI1.out.1 HI1.out.2.1 HI1.out.2.2.1 HI1.out.2.2.2 (by rfl) (by decide) (by rfl) (ownsB_on hown3 (one_al _ _)) (by rfl) (by rfl) (fun e => by cases e) (bt hB3 (one_al _ _)) (cells_at (Box.new _ _ _ _ rfl) rfl) (cpL_one1 c) (by unfold maxLen; omega) (by omega) ?_
      intro v4 w4 hown4 hb4 hB4 hk4
      refine hK.out _ _ (fun _ => HeldP.on hHeld hb4) (fun hHx => ?_)
      clear hHeld
      have hHeld := hHx (by decide)
      clear hK K hHx
      try simp only [Act.put, List.getElem_toArray, List.getElem_cons_succ, List.getElem_cons_zero, List.setIfInBounds_toArray, List.set_cons_zero, List.set_cons_succ]
      refine wpAnyE_one (i := 13) (by kernel_rfl) rfl (fun K hK => ?_)
      refine step_append_up W v4 (0 + n + 1) (([] ++ flatV cpL (L.take n)) ++ cpL c) (some D) (L.length - n) (ck - n) (flatV cpL (L.drop n)) (by rfl) (.tmp 267) (.tmp 271) 33 (by rfl) 92 i1 (.agg #[.string ⟨#[]⟩, .int .i64 0, .int .i64 0, .int .i64 0, .int .i64 0, .bool false, .string ⟨#[]⟩]) 7 72 Tryz.underlying33 HI1.out.1 HI1.out.2.1 HI1.out.2.2.1 HI1.out.2.2.2 (by rfl) (by decide) (by rfl) hown4 (by rfl) HL2.out (fun e => by cases e) hB4 (fun ad he => by cases he; exact HN2.out _ hB4) (cpL_one _) (by unfold maxLen; omega) (by omega) ?_
      intro v5 w5 hown5 hb5 hB5 hk5
      refine hK.out _ _ (fun _ => HeldP.on hHeld hb5) (fun hHx => ?_)
      clear hHeld
      have hHeld := hHx (by decide)
      clear hK K hHx
      try simp only [Act.put, List.getElem_toArray, List.getElem_cons_succ, List.getElem_cons_zero, List.setIfInBounds_toArray, List.set_cons_zero, List.set_cons_succ]
      refine wpAnyE_take [15] (i := 14) (v := .pointer (some ⟨γ, 2, none⟩)) rfl (by kernel_rfl) (by kernel_rfl) (by kernel_rfl) (by kernel_rfl) (fun _ _ _ h => h) (Or.inl ⟨by rfl, fun W hW => by obtain ⟨h1, h2, h3⟩ := hW; go_simp⟩) hHeld ?_
      try simp only [Act.put, List.getElem_toArray, List.getElem_cons_succ, List.getElem_cons_zero, List.setIfInBounds_toArray, List.set_cons_zero, List.set_cons_succ]
      refine wpAnyE_one (i := 15) (by kernel_rfl) rfl (fun K hK => ?_)
      obtain ⟨sa, sn, sc, rfl⟩ := owns_slice hown5
      have c2 := (HX.out.on hB5).cell 2
      have f2 := (HX.out.on hB5).free
      simp at c2
      go_simp
      refine hK.out _ _ (fun h => absurd rfl h) (fun _ => ?_)
      clear hK K hHeld
      try simp only [Act.put, List.getElem_toArray, List.getElem_cons_succ, List.getElem_cons_zero, List.setIfInBounds_toArray, List.set_cons_zero, List.set_cons_succ]
      refine wpAnyE_done (by kernel_rfl) ?_ _
      exact HQ.out _ _ _ _ _ _ _ _ _ _ _ _ _ _ _ _ _ hB5 (FIN hown5)
    · go_simp
      refine hK.out _ _ (fun _ => HeldP.al hHeld _) (fun hHx => ?_)
      clear hHeld
      have hHeld := hHx (by decide)
      clear hK K hHx
      try simp only [Act.put, List.getElem_toArray, List.getElem_cons_succ, List.getElem_cons_zero, List.setIfInBounds_toArray, List.set_cons_zero, List.set_cons_succ]
      refine wpAnyE_one (i := 5) (by kernel_rfl) rfl (fun K hK => ?_)
      refine step_append_up W (.slice (some ⟨W.heap.size, 0, none⟩) 0 0) 0 [] (some ⟨b, off, th⟩) n ck (flatV cpL (L.take n)) (by rfl) (.tmp 259) (.tmp 263) 33 (by rfl) 92 i1 (.agg #[.string ⟨#[]⟩, .int .i64 0, .int .i64 0, .int .i64 0, .int .i64 0, .bool false, .string ⟨#[]⟩]) 7 72 Tryz.underlying33 HI1.out.1 HI1.out.2.1 HI1.out.2.2.1 HI1.out.2.2.2 (by rfl) (by decide) (by rfl) (owns_first W _ 7 (Nat.le_refl _) _) (by rfl) HL1.out (fun e => by cases e) (below_al2 _ _) (fun ad he => by cases he; exact HN1.out _ (below_al2 _ _)) (cpL_one _) (by unfold maxLen; omega) (by omega) ?_
      intro v3 w3 hown3 hb3 hB3 hk3
      refine hK.out _ _ (fun _ => HeldP.on hHeld hb3) (fun hHx => ?_)
      clear hHeld
      have hHeld := hHx (by decide)
      clear hK K hHx
      try simp only [Act.put, List.getElem_toArray, List.getElem_cons_succ, List.getElem_cons_zero, List.setIfInBounds_toArray, List.set_cons_zero, List.set_cons_succ]
      refine wpAnyE_one (i := 8) (by kernel_rfl) rfl (fun K hK => ?_)
      refine step_append_up W v3 (0 + n) ([] ++ flatV cpL (L.take n)) (some ⟨W.heap.size + 1, 0, none⟩) 1 1 (cpL c) (by rfl) (.tmp 264) (.tmp 266) 33 (by rfl) 92 i1 (.agg #[.string ⟨#[]⟩, .int .i64 0, .int .i64 0, .int .i64 0, .int .i64 0, .bool false, .string ⟨#[]⟩]) 7 72 Tryz.underlying33 HI1.out.1 HI1.out.2.1 HI1.out.2.2.1 HI1.out.2.2.2 (by rfl) (by decide) (by rfl) (hown3) (by rfl) (by rfl) (fun e => by cases e) (hB3) (cells_at (Box.of_block (Box.drew (Box.new _ _ _ _ (by simp))) (hk3 _ (by simp) (by simp [Value.ownBlock]))) rfl) (cpL_one1 c) (by unfold maxLen; omega) (by omega) ?_
      intro v4 w4 hown4 hb4 hB4 hk4
      refine hK.out _ _ (fun _ => HeldP.on hHeld hb4) (fun hHx => ?_)
      clear hHeld
      have hHeld := hHx (by decide)
      clear hK K hHx
      try simp only [Act.put, List.getElem_toArray, List.getElem_cons_succ, List.getElem_cons_zero, List.setIfInBounds_toArray, List.set_cons_zero, List.set_cons_succ]
      refine wpAnyE_one (i := 13) (by kernel_rfl) rfl (fun K hK => ?_)
      refine step_append_up W v4 (0 + n + 1) (([] ++ flatV cpL (L.take n)) ++ cpL c) (some D) (L.length - n) (ck - n) (flatV cpL (L.drop n)) (by rfl) (.tmp 267) (.tmp 271) 33 (by rfl) 92 i1 (.agg #[.string ⟨#[]⟩, .int .i64 0, .int .i64 0, .int .i64 0, .int .i64 0, .bool false, .string ⟨#[]⟩]) 7 72 Tryz.underlying33 HI1.out.1 HI1.out.2.1 HI1.out.2.2.1 HI1.out.2.2.2 (by rfl) (by decide) (by rfl) hown4 (by rfl) HL2.out (fun e => by cases e) hB4 (fun ad he => by cases he; exact HN2.out _ hB4) (cpL_one _) (by unfold maxLen; omega) (by omega) ?_
      intro v5 w5 hown5 hb5 hB5 hk5
      refine hK.out _ _ (fun _ => HeldP.on hHeld hb5) (fun hHx => ?_)
      clear hHeld
      have hHeld := hHx (by decide)
      clear hK K hHx
      try simp only [Act.put, List.getElem_toArray, List.getElem_cons_succ, List.getElem_cons_zero, List.setIfInBounds_toArray, List.set_cons_zero, List.set_cons_succ]
      refine wpAnyE_take [15] (i := 14) (v := .pointer (some ⟨γ, 2, none⟩)) rfl (by kernel_rfl) (by kernel_rfl) (by kernel_rfl) (by kernel_rfl) (fun _ _ _ h => h) (Or.inl ⟨by rfl, fun W hW => by obtain ⟨h1, h2, h3⟩ := hW; go_simp⟩) hHeld ?_
      try simp only [Act.put, List.getElem_toArray, List.getElem_cons_succ, List.getElem_cons_zero, List.setIfInBounds_toArray, List.set_cons_zero, List.set_cons_succ]
      refine wpAnyE_one (i := 15) (by kernel_rfl) rfl (fun K hK => ?_)
      obtain ⟨sa, sn, sc, rfl⟩ := owns_slice hown5
      have c2 := (HX.out.on hB5).cell 2
      have f2 := (HX.out.on hB5).free
      simp at c2
      go_simp
      refine hK.out _ _ (fun h => absurd rfl h) (fun _ => ?_)
      clear hK K hHeld
      try simp only [Act.put, List.getElem_toArray, List.getElem_cons_succ, List.getElem_cons_zero, List.setIfInBounds_toArray, List.set_cons_zero, List.set_cons_succ]
      refine wpAnyE_done (by kernel_rfl) ?_ _
      exact HQ.out _ _ _ _ _ _ _ _ _ _ _ _ _ _ _ _ _ hB5 (FIN hown5)
  · go_simp
    refine hK.out _ _ (fun _ => HeldP.al hHeld _) (fun hHx => ?_)
    clear hHeld
    have hHeld := hHx (by decide)
    clear hK K hHx
    try simp only [Act.put, List.getElem_toArray, List.getElem_cons_succ, List.getElem_cons_zero, List.setIfInBounds_toArray, List.set_cons_zero, List.set_cons_succ]
    refine wpAnyE_one (i := 0) (by kernel_rfl) rfl (fun K hK => ?_)
    go_simp
    refine hK.out _ _ (fun _ => HeldP.al hHeld _) (fun hHx => ?_)
    clear hHeld
    have hHeld := hHx (by decide)
    clear hK K hHx
    try simp only [Act.put, List.getElem_toArray, List.getElem_cons_succ, List.getElem_cons_zero, List.setIfInBounds_toArray, List.set_cons_zero, List.set_cons_succ]
    refine wpAnyE_one (i := 5) (by kernel_rfl) rfl (fun K hK => ?_)
    refine step_append_up W (.slice (some ⟨W.heap.size + 1, 0, none⟩) 0 0) 0 [] (some ⟨b, off, th⟩) n ck (flatV cpL (L.take n)) (by rfl) (.tmp 259) (.tmp 263) 33 (by rfl) 92 i1 (.agg #[.string ⟨#[]⟩, .int .i64 0, .int .i64 0, .int .i64 0, .int .i64 0, .bool false, .string ⟨#[]⟩]) 7 72 Tryz.underlying33 HI1.out.1 HI1.out.2.1 HI1.out.2.2.1 HI1.out.2.2.2 (by rfl) (by decide) (by rfl) (owns_last _ _ _ 7 (by simp) (by simp)) (by rfl) HL1.out (fun e => by cases e) (below_al2 _ _) (fun ad he => by cases he; exact HN1.out _ (below_al2 _ _)) (cpL_one _) (by unfold maxLen; omega) (by omega) ?_
    intro v3 w3 hown3 hb3 hB3 hk3
    refine hK.out _ _ (fun _ => HeldP.on hHeld hb3) (fun hHx => ?_)
    clear hHeld
    have hHeld := hHx (by decide)
    clear hK K hHx
    try simp only [Act.put, List.getElem_toArray, List.getElem_cons_succ, List.getElem_cons_zero, List.setIfInBounds_toArray, List.set_cons_zero, List.set_cons_succ]
    refine wpAnyE_one (i := 8) (by kernel_rfl) rfl (fun K hK => ?_)
    refine step_append_up W v3 (0 + n) ([] ++ flatV cpL (L.take n)) (some ⟨W.heap.size, 0, none⟩) 1 1 (cpL c) (by rfl) (.tmp 264) (.tmp 266) 33 (by rfl) 92 i1 (.agg #[.string ⟨#[]⟩, .int .i64 0, .int .i64 0, .int .i64 0, .int .i64 0, .bool false, .string ⟨#[]⟩]) 7 72 Tryz.underlying33 HI1.out.1 HI1.out.2.1 HI1.out.2.2.1 HI1.out.2.2.2 (by rfl) (by decide) (by rfl) (hown3) (by rfl) (by rfl) (fun e => by cases e) (hB3) (cells_at (Box.of_block (Box.drew ((Box.new W _ _ _ rfl).on (one_al _ _))) (hk3 _ (by simp; omega) (by simp [Value.ownBlock]))) rfl) (cpL_one1 c) (by unfold maxLen; omega) (by omega) ?_
    intro v4 w4 hown4 hb4 hB4 hk4
    refine hK.out _ _ (fun _ => HeldP.on hHeld hb4) (fun hHx => ?_)
    clear hHeld
    have hHeld := hHx (by decide)
    clear hK K hHx
    try simp only [Act.put, List.getElem_toArray, List.getElem_cons_succ, List.getElem_cons_zero, List.setIfInBounds_toArray, List.set_cons_zero, List.set_cons_succ]
    refine wpAnyE_one (i := 13) (by kernel_rfl) rfl (fun K hK => ?_)
    refine step_append_up W v4 (0 + n + 1) (([] ++ flatV cpL (L.take n)) ++ cpL c) (some D) (L.length - n) (ck - n) (flatV cpL (L.drop n)) (by rfl) (.tmp 267) (.tmp 271) 33 (by rfl) 92 i1 (.agg #[.string ⟨#[]⟩, .int .i64 0, .int .i64 0, .int .i64 0, .int .i64 0, .bool false, .string ⟨#[]⟩]) 7 72 Tryz.underlying33 HI1.out.1 HI1.out.2.1 HI1.out.2.2.1 HI1.out.2.2.2 (by rfl) (by decide) (by rfl) hown4 (by rfl) HL2.out (fun e => by cases e) hB4 (fun ad he => by cases he; exact HN2.out _ hB4) (cpL_one _) (by unfold maxLen; omega) (by omega) ?_
    intro v5 w5 hown5 hb5 hB5 hk5
    refine hK.out _ _ (fun _ => HeldP.on hHeld hb5) (fun hHx => ?_)
    clear hHeld
    have hHeld := hHx (by decide)
    clear hK K hHx
    try simp only [Act.put, List.getElem_toArray, List.getElem_cons_succ, List.getElem_cons_zero, List.setIfInBounds_toArray, List.set_cons_zero, List.set_cons_succ]
    refine wpAnyE_take [15] (i := 14) (v := .pointer (some ⟨γ, 2, none⟩)) rfl (by kernel_rfl) (by kernel_rfl) (by kernel_rfl) (by kernel_rfl) (fun _ _ _ h => h) (Or.inl ⟨by rfl, fun W hW => by obtain ⟨h1, h2, h3⟩ := hW; go_simp⟩) hHeld ?_
    try simp only [Act.put, List.getElem_toArray, List.getElem_cons_succ, List.getElem_cons_zero, List.setIfInBounds_toArray, List.set_cons_zero, List.set_cons_succ]
    refine wpAnyE_one (i := 15) (by kernel_rfl) rfl (fun K hK => ?_)
    obtain ⟨sa, sn, sc, rfl⟩ := owns_slice hown5
    have c2 := (HX.out.on hB5).cell 2
    have f2 := (HX.out.on hB5).free
    simp at c2
    go_simp
    refine hK.out _ _ (fun h => absurd rfl h) (fun _ => ?_)
    clear hK K hHeld
    try simp only [Act.put, List.getElem_toArray, List.getElem_cons_succ, List.getElem_cons_zero, List.setIfInBounds_toArray, List.set_cons_zero, List.set_cons_succ]
    refine wpAnyE_done (by kernel_rfl) ?_ _
    exact HQ.out _ _ _ _ _ _ _ _ _ _ _ _ _ _ _ _ _ hB5 (FIN hown5)
end Go.Proofs.YtaogpeebencnoaaGreatDoor
