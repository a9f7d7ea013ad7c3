import Derived.Test.YtmaagbnjpdijnaaVOXg
import Derived.Test.YtmaagbnjpdijnaaVSX
import Derived.Test.YtmaagbnjpdijnaaVBW
import Derived.Test.YtmaagbnjpdijnaaVGX
import Derived.Test.YtmaagbnjpdijnaaVDA
import Derived.Deep.RegionLaw
import Derived.Test.YtmaagbnjpdijnaaVBOG
import Derived.Test.YtmaagbnjpdijnaaVCC
import Derived.Test.YtmaagbnjpdijnaaVOWX
import Derived.Test.YtmaagbnjpdijnaaVBBL
import Derived.Test.YtmaagbnjpdijnaaVCLE
import Derived.Test.YtmaagbnjpdijnaaVA1
namespace Go.Proofs.Ytmaagbnjpdijnaa
open Go.RowKit Go.Deep

theorem cell_new7 (X : World) (g : Nat) (L : List Value) (t : TypeId) (hg : X.heap.size = g) : ∀ j x, L[j]? = some x → (X.alloc (.cells L.toArray t)).cell? ((⟨g, 0, none⟩ : Addr).add j) = some x := by
  intro j x hx
  subst hg
  rw [Go.WideShapes.add_plain, Nat.zero_add, new_cell _ _ _ _ _ rfl]
  simpa using hx
theorem take_map_snoc {X Y : Type} {L : List (X × Y)} {l : List X} {k : Nat} (h : L.map Prod.fst = l.take k) (hk : k < l.length) {x : X × Y} (hx : x.1 = l[k]) : (L ++ [x]).map Prod.fst = l.take (k + 1) := by
  rw [List.map_append, h, List.take_succ_eq_append_getElem hk, List.map_cons, List.map_nil, hx]
theorem take_map_len {X Y : Type} {L : List (X × Y)} {l : List X} {k : Nat} (h : L.map Prod.fst = l.take k) (hk : k ≤ l.length) : L.length = k := by
  have := congrArg List.length h
  rw [List.length_map, List.length_take] at this
  omega
theorem run_append_void {P : Program} (w : World) (t ty e : TypeId) (i : TypeInfo) (ht : P.underlying t = some (.slice e)) (hi : P.info? e = some i) (c : Nat) : (Builtin.append_ #[t, t] ty #[.slice none 0 0, .slice none 0 c]).run P w = .ok (.slice none 0 0) w := by
  simp [Builtin.append_, run_underlying ht, sizeOf, typeInfo, hi, Builtin.lenOf, run_firstCells_none]
/-- append(nil, x...) of whatever list -/
theorem wpList_append_all {P : Program} {w : World} {ops : Array Oper} {rest : List Oper} {o : Oper} {a : Act} {Q : Exit → Act → World → Prop} (hgd : o.guard = none) (s x : Operand) (t : TypeId)
    (ho : o.op = .call { callee := .builtin .append, args := #[s, x], argTypes := #[t, t] })
    (e : TypeId) (i : TypeInfo) (z : Value) (size bytes : Nat) (ht : P.underlying t = some (.slice e)) (hi : P.info? e = some i) (hz : i.zero = some z)
    (hsize : i.size = size) (hby : i.bytes = bytes) (hzs : z.cells.size = size) (hsz : 0 < size)
    (hs : a.eval s = .slice none 0 0)
    (ao : Option Addr) (m c : Nat) (news : List Value) (hx : a.eval x = .slice ao m c) (hl : news.length = m * size) (hm : ao = none → m = 0) (hnews : ∀ ad, ao = some ad → ∀ j u, news[j]? = some u → w.cell? (ad.add j) = some u) (h1 : ∀ u ∈ news, u.oneCell' = true)
    (h63 : m ≤ maxLen) (hbytes : m * bytes ≤ 140737488355328)
    (h : ∀ v' w', w'.ownsRow w.heap.size e size v' m news → Below w.heap.size w w' → wpList P ops Q rest (a.put o.dst v') w') :
    wpList P ops Q (o :: rest) a w := by
  cases ao with
  | none =>
    have hm0 := hm rfl
    subst hm0
    have hn : news = [] := List.length_eq_zero_iff.1 (by rw [hl, Nat.zero_mul])
    subst hn
    refine wpList_plain hgd fun K hK => ?_
    have hr := run_append_void (P := P) w t o.type e i ht hi c
    unfold Oper.wp execOp
    simp only [ho, resolve, invoke, builtin, Sem.run_bind, Sem.run_pure, Result.andThen_ok, List.map_toArray, List.map_cons, List.map_nil, hs, hx, hr]
    exact hK _ _ (h _ _ (ownsB_none _ _ _) (Below.refl _ _))
  | some ad =>
    refine wpList_append_own_at w hgd s x t ho w.heap.size e i z size bytes ht hi hz hsize hby hzs hsz _ 0 [] hs (ownsB_none _ _ _) ad m c news hx hl (hnews ad rfl) h1 (by omega) (by rw [Nat.zero_add]; exact hbytes) (Nat.le_refl _) ?_
    intro v' w' hown hgrow _ _
    rw [Nat.zero_add, List.nil_append] at hown
    exact h v' w' hown (Below.grown hgrow)
theorem obcs_one {lo : Nat} {w : World} {z0 z1 : Value} {V Ho : List ByteArray} (h : ObjOwn lo w z0 z1 V Ho) (x : Ob) : ∀ u ∈ Obcs (x, z0, z1), u.oneCell' = true := by
  obtain ⟨_, _, _, h0, h1⟩ := h
  obtain ⟨_, _, rfl⟩ := h0.at.form'
  obtain ⟨_, _, rfl⟩ := h1.at.form'
  intro u hu
  simp only [Obcs, List.mem_cons, List.not_mem_nil, or_false] at hu
  rcases hu with rfl | rfl | rfl | rfl | rfl | rfl | rfl <;> rfl
theorem grcs_one (x : Gr) (a : Option Addr) (n c : Nat) : ∀ u ∈ Grcs (x, .slice a n c), u.oneCell' = true := by
  intro u hu
  simp only [Grcs, List.mem_cons, List.not_mem_nil, or_false] at hu
  rcases hu with rfl | rfl | rfl | rfl | rfl | rfl | rfl <;> rfl
theorem below_q4 {wr X : World} (h : Below wr.heap.size wr X) (a b c d : Value) (o : Obj) (i j k l : Nat) : Below wr.heap.size wr (((((X.setCell ⟨wr.heap.size, i, none⟩ a).setCell ⟨wr.heap.size, j, none⟩ b).setCell ⟨wr.heap.size, k, none⟩ c).setCell ⟨wr.heap.size, l, none⟩ d).alloc o) := by
  refine Below.alloc ?_ (by simp only [World.setCell, Array.size_modify]; exact h.size) _
  exact (((h.setCell (p := ⟨wr.heap.size, i, none⟩) (Nat.le_refl _) a).setCell (p := ⟨wr.heap.size, j, none⟩) (Nat.le_refl _) b).setCell (p := ⟨wr.heap.size, k, none⟩) (Nat.le_refl _) c).setCell (p := ⟨wr.heap.size, l, none⟩) (Nat.le_refl _) d
theorem size_q4 (X : World) (g : Nat) (a b c d : Value) (i j k l : Nat) : ((((X.setCell ⟨g, i, none⟩ a).setCell ⟨g, j, none⟩ b).setCell ⟨g, k, none⟩ c).setCell ⟨g, l, none⟩ d).heap.size = X.heap.size := by simp [World.setCell]
theorem size_q4' (X : World) (g : Nat) (a b c d : Value) (o : Obj) (i j k l : Nat) : X.heap.size ≤ (((((X.setCell ⟨g, i, none⟩ a).setCell ⟨g, j, none⟩ b).setCell ⟨g, k, none⟩ c).setCell ⟨g, l, none⟩ d).alloc o).heap.size := by simp [World.setCell]
theorem ints_q4 {g lo hi : Nat} {X : World} {v : Value} {L : List Int} (h : IntsOwn lo hi X v L) (hg : g < lo) (a b c d : Value) (o : Obj) (i j k l : Nat) : IntsOwn lo hi (((((X.setCell ⟨g, i, none⟩ a).setCell ⟨g, j, none⟩ b).setCell ⟨g, k, none⟩ c).setCell ⟨g, l, none⟩ d).alloc o) v L :=
  ((((h.setLow hg _).setLow hg _).setLow hg _).setLow hg _).below (one_al _ _)
/-- where the copy of a book stands behind its two loops -/
structure CpIn (s : Nat) (w wr : World) (cb cx : Array Value) : Prop where
  bel : Below s w wr
  inn : Box wr s cb
  res : Box wr (s + 1) #[.int .i64 0, .int .i64 0, .int .i64 0, .slice none 0 0, .slice none 0 0, .slice none 0 0, .slice none 0 0]
  out : Box wr (s + 2) cx
theorem CpIn.on {s : Nat} {w wr w' : World} {cb cx : Array Value} (h : CpIn s w wr cb cx) (hb : Below (s + 3) wr w') : CpIn s w w' cb cx :=
  ⟨h.bel.trans (hb.mono (by omega)), h.inn.below hb (by omega), h.res.below hb (by omega), h.out.below hb (by omega)⟩
theorem CpIn.set {s : Nat} {w wr : World} {cb cx : Array Value} (h : CpIn s w wr cb cx) (k : Nat) (u : Value) (hk : k < cx.size) : CpIn s w (wr.setCell ⟨s + 2, k, none⟩ u) cb (cx.set k u hk) :=
  ⟨h.bel.setCell (by simp only []; omega) _, h.inn.setFar (by simp only []; omega) _, h.res.setFar (by simp only []; omega) _, h.out.set (k := k) u hk⟩

section
variable (lo : Nat) (ov gv lv pv : Value) (B : Bk) (w : World)

set_option maxRecDepth 20000 in
set_option maxHeartbeats 8000000 in
theorem l5Copy_any (h : BookAt lo w ov gv lv pv B) (hn : BookSmall B) :
    Calls Try.prog 49 #[.agg #[.int .i64 B.now, .int .i64 B.tick, .int .i64 B.given, ov, gv, lv, pv]] w
      fun e w' => ∃ b0 m0 b1 m1 b2 m2 b3 m3, e = .returned (.agg #[.int .i64 B.now, .int .i64 B.tick, .int .i64 B.given, .slice b0 B.os.length m0, .slice b1 B.gs.length m1, .slice b2 B.ls.length m2, .slice b3 B.ps.length m3]) ∧ Below w.heap.size w w' ∧
        BookOwn w.heap.size w'.heap.size w' (.slice b0 B.os.length m0) (.slice b1 B.gs.length m1) (.slice b2 B.ls.length m2) (.slice b3 B.ps.length m3) B := by
  have HL := hide h
  obtain ⟨a0, k0, rfl⟩ := h.obs.form
  obtain ⟨a1, k1, rfl⟩ := h.grs.form
  obtain ⟨a2, k2, rfl⟩ := h.les.form
  obtain ⟨a3, k3, rfl⟩ := h.pus.form
  obtain ⟨hn0, hn1, hn2, hn3⟩ := hn
  have HN0 := hide hn0
  have HN1 := hide hn1
  have nO := hn0.1
  have nG := hn1.1
  have nL := hn2.1
  have nP := hn3.1
  clear hn0 hn1 hn2 hn3
  have HLo := hide h.obs
  have HLg := hide h.grs
  clear h
  obtain ⟨io, hio, hzo, hzo1, hzo2⟩ := info_parts Try.info128
  have HIO := hide (And.intro hio (And.intro hzo (And.intro hzo1 hzo2)))
  obtain ⟨ig, hig, hzg, hzg1, hzg2⟩ := info_parts Try.info91
  have HIG := hide (And.intro hig (And.intro hzg (And.intro hzg1 hzg2)))
  obtain ⟨il, hil, hzl, hzl1, hzl2⟩ := info_parts Try.info155
  have HIL := hide (And.intro hil (And.intro hzl (And.intro hzl1 hzl2)))
  obtain ⟨ip, hip, hzp, hzp1, hzp2⟩ := info_parts Try.info158
  have HIP := hide (And.intro hip (And.intro hzp (And.intro hzp1 hzp2)))
  have HNL : Hid ((a2 = none → B.ls.length = 0) ∧ ∀ ad, a2 = some ad → ∀ W, Below w.heap.size w W → ∀ j u, (Levs B.ls)[j]? = some u → W.cell? (ad.add j) = some u) := by
    refine ⟨fun e => ?_, fun ad e W hb => ?_⟩
    · rcases HL.out.les with ⟨_, _, _, h⟩ | ⟨_, _, _, h, _⟩
      · rw [h]; rfl
      · rw [e] at h; injection h with h; cases h
    · subst e; exact Levs_news HL.out.les hb
  have HNP : Hid ((a3 = none → B.ps.length = 0) ∧ ∀ ad, a3 = some ad → ∀ W, Below w.heap.size w W → ∀ j u, (Puvs B.ps)[j]? = some u → W.cell? (ad.add j) = some u) := by
    refine ⟨fun e => ?_, fun ad e W hb => ?_⟩
    · rcases HL.out.pus with ⟨_, _, _, h⟩ | ⟨_, _, _, h, _⟩
      · rw [h]; rfl
      · rw [e] at h; injection h with h; cases h
    · subst e; exact Puvs_news HL.out.pus hb
  have HZL : Hid (∀ i (hi : i < B.ls.length), LeSize B.ls[i]) := fun i hi => by
    obtain ⟨_, _, _, _, _, _, _, hc⟩ := HL.out.les.full (fun e => by rw [e] at hi; simp at hi)
    exact (hc i hi).1
  have HZP : Hid (∀ i (hi : i < B.ps.length), PuSize B.ps[i]) := fun i hi => by
    obtain ⟨_, _, _, _, _, _, _, hc⟩ := HL.out.pus.full (fun e => by rw [e] at hi; simp at hi)
    exact (hc i hi).1
  clear hil hzl hzl1 hzl2 hip hzp hzp1 hzp2
  clear hio hzo hzo1 hzo2 hig hzg hzg1 hzg2
  go_enter Try.func49, Try.ntmps49
  go_wp2
  go_loopw [4] (fun i wr => ∃ (k : Nat) (L : List (Ob × Value × Value)) (c : Nat → Nat × Nat) (v : Value), i = .int .i64 k ∧ k ≤ B.os.length ∧ CpIn w.heap.size w wr #[.int .i64 B.now, .int .i64 B.tick, .int .i64 B.given, .slice a0 B.os.length k0, .slice a1 B.gs.length k1, .slice a2 B.ls.length k2, .slice a3 B.ps.length k3] #[.int .i64 B.now, .int .i64 B.tick, .int .i64 B.given, v, .slice none 0 0, .slice none 0 0, .slice none 0 0] ∧ ObGrow (w.heap.size + 3) wr v L c ∧ L.map Prod.fst = B.os.take k ∧ w.heap.size + 3 ≤ wr.heap.size) (fun i _ => B.os.length - (intOf i).toNat)
  case atStart =>
    refine ⟨0, [], _, .slice none 0 0, rfl, by omega, ⟨?_, ?_, ?_, ?_⟩, ObGrow.start _ _, by simp, by simp⟩
    · exact ((one_al w _).alloc (by simp) _).alloc (by simp; omega) _
    · exact ((Box.new _ _ _ _ rfl).on (one_al _ _)).on (one_al _ _)
    · exact (Box.new _ _ _ _ (by simp)).on (one_al _ _)
    · exact Box.new _ _ _ _ (by simp)
  case round =>
    obtain ⟨k, L, c, v, rfl, hk, hcp, hg, hX, hsz⟩ := hrel
    have HCP := hide hcp
    have HG := hide hg
    have HX := hide hX
    have hLk := take_map_len hX hk
    subst hLk
    have b3 := hcp.inn.cell 3
    have x3 := hcp.out.cell 3
    simp at b3 x3
    clear hcp hg hX
    by_cases hlt : L.length < B.os.length
    · obtain ⟨b, off, rfl, hbw, -, hc⟩ := HLo.out.full' (by omega)
      obtain ⟨hs, vv0, vv1, hc, hv0, hv1⟩ := hc L.length hlt
      obtain ⟨p0, q0, rfl⟩ := hv0.at.form'
      obtain ⟨p1, q1, rfl⟩ := hv1.at.form'
      obtain ⟨c0, c1, c2, c3, c4, c5, c6⟩ := hc.below HCP.out.bel hbw
      have HV0 := hide (hv0.below HCP.out.bel)
      have HV1 := hide (hv1.below HCP.out.bel)
      have HSZ := hide hs
      clear hc hv0 hv1 hs
      go_wp2
      have hs1 := hsz
      go_region_law (first
        | (go_simp
           go_at_call 83
           refine (l2Copy_any _ _ _ _ _ _ _ B.os[L.length].vs B.os[L.length].hs _ (HV0.out.below ((Below.refl _ _).drew)).at (HV1.out.below ((Below.refl _ _).drew)).at (HN0.out.2 L.length hlt).1 (HN0.out.2 L.length hlt).2).mono ?_
           rintro e w1 ⟨z0, z1, rfl, hb1, hobj⟩
           have HW1 : Hid (Below wr.heap.size wr w1) := bt ((Below.refl _ _).drew) hb1
           have HOB : Hid (ObjOwn wr.heap.size w1 z0 z1 B.os[L.length].vs B.os[L.length].hs) := hobj
           clear hobj hb1
           have y3 : w1.cell? ⟨w.heap.size + 2, 3, none⟩ = some v := (HW1.out.cell (p := ⟨w.heap.size + 2, 3, none⟩) (by simp only []; omega)).trans x3
           have y4 : ∀ o, (w1.alloc o).cell? ⟨w.heap.size + 2, 3, none⟩ = some v := fun o => ((HW1.out.trans ((one_al w1 o).mono HW1.out.size)).cell (p := ⟨w.heap.size + 2, 3, none⟩) (by simp only []; omega)).trans x3
           dsimp only)
        | (refine step_append_lies _ (by rfl) (.tmp 22) (.tmp 29) 43 (by rfl) (w.heap.size + 3) 128 io (.agg #[.string ⟨#[]⟩, .string ⟨#[]⟩, .string ⟨#[]⟩, .slice none 0 0, .bool false, .slice none 0 0, .int .i64 0]) 7 112 Try.underlying43 HIO.out.1 HIO.out.2.1 HIO.out.2.2.1 HIO.out.2.2.2 (by rfl) (by decide) v L.length (Obgs L) (by rfl) (Below.ownsB HG.out.own (HW1.out.trans ((one_al w1 _).mono HW1.out.size))) ⟨w1.heap.size, 0, none⟩ 1 1 (Obcs (B.os[L.length], z0, z1)) (by rfl) (by rfl) (cell_new7 _ _ _ _ rfl) (obcs_one HOB.out _) (by decide) (by unfold maxLen; omega) (by omega) (by have := HW1.out.size; simp; omega) _ rfl ?_
           intro g cap w3 hown3 hgrow3 hat3 hlt3
           have HB3 : Hid (Below (w.heap.size + 3) wr w3) := ((HW1.out.trans ((one_al w1 _).mono HW1.out.size)).mono (by omega)).trans (ownsB_grown (Below.ownsB HG.out.own (HW1.out.trans ((one_al w1 _).mono HW1.out.size))) hgrow3 (by have := HW1.out.size; simp; omega))
           have y5 : w3.cell? ⟨w.heap.size + 2, 3, none⟩ = some v := (HB3.out.cell (p := ⟨w.heap.size + 2, 3, none⟩) (by simp only []; omega)).trans x3
           have y6 : w3.frozen? ⟨w.heap.size + 2, 3, none⟩ = false := (HCP.out.on HB3.out).out.free 3
           have HGN : Hid (ObGrow (w.heap.size + 3) w3 (.slice (some ⟨g, 0, none⟩) (L.length + 1) cap) (L ++ [(B.os[L.length], z0, z1)]) (fun i => if i < L.length then c i else (wr.heap.size, w1.heap.size))) := by
             obtain ⟨mid, hm0, hm1, hO0, hO1⟩ := HOB.out
             exact HG.out.snoc (HW1.out.trans ((one_al w1 _).mono HW1.out.size)) (B.os[L.length], z0, z1) HSZ.out (Nat.le_refl _) (by simp) (by omega) hm0 hm1 (hO0.below (one_al _ _)) (hO1.below (one_al _ _)) hown3 hgrow3 hat3))
      all_goals (go_wp2)
      all_goals go_roundw
      all_goals first
        | (case rel => exact ⟨L.length + 1, L ++ [(B.os[L.length], z0, z1)], _, _, by go_num, by omega, (HCP.out.on HB3.out).set 3 _ (by simp), HGN.out.touch (Touch.setB _ _ _ _) (Nat.le_refl _), take_map_snoc HX.out hlt rfl, by have := HB3.out.size; simp [World.setCell]; omega⟩)
        | (case measure => simp [intOf]; omega)
    · have e : L.length = B.os.length := by omega
      have HOB : Hid (ObsOwn (w.heap.size + 3) wr.heap.size wr v B.os) := HG.out.owns (by rw [HX.out, e, List.take_length])
      obtain ⟨M, hM⟩ : ∃ M, M = wr.heap.size := ⟨_, rfl⟩
      rw [← hM] at HOB
      have hM3 : w.heap.size + 3 ≤ M := by omega
      have hMw := hM
      have HMw := hide hMw
      clear HG HX e hM hMw
      go_wp2
      clear b3 x3
      go_loopw [5] (fun i wr => ∃ (k : Nat) (L : List (Gr × Value)) (c : Nat → Nat × Nat) (u : Value), i = .int .i64 k ∧ k ≤ B.gs.length ∧ CpIn w.heap.size w wr #[.int .i64 B.now, .int .i64 B.tick, .int .i64 B.given, .slice a0 B.os.length k0, .slice a1 B.gs.length k1, .slice a2 B.ls.length k2, .slice a3 B.ps.length k3] #[.int .i64 B.now, .int .i64 B.tick, .int .i64 B.given, v, u, .slice none 0 0, .slice none 0 0] ∧ ObsOwn (w.heap.size + 3) M wr v B.os ∧ GrGrow M wr u L c ∧ L.map Prod.fst = B.gs.take k ∧ M ≤ wr.heap.size) (fun i _ => B.gs.length - (intOf i).toNat)
      case atStart => exact ⟨0, [], _, .slice none 0 0, rfl, by omega, HCP.out, HOB.out, GrGrow.start _ _, by simp, Nat.le_of_eq HMw.out⟩
      case round =>
        obtain ⟨k', L, c, u, rfl, hk', hcp, hob, hg, hX, hsz'⟩ := hrel
        have HCP2 := hide hcp
        have HOB2 := hide hob
        have HG := hide hg
        have HX := hide hX
        have hLk' := take_map_len hX hk'
        subst hLk'
        have b4 := hcp.inn.cell 4
        have x4 := hcp.out.cell 4
        simp at b4 x4
        clear hcp hg hX hob
        by_cases hlt : L.length < B.gs.length
        · obtain ⟨b, off, rfl, hbw, -, hc⟩ := HLg.out.full' (by omega)
          obtain ⟨hs, vv0, hc, hv0⟩ := hc L.length hlt
          obtain ⟨p0, q0, rfl⟩ := hv0.form
          obtain ⟨c0, c1, c2, c3, c4, c5, c6⟩ := hc.below HCP2.out.bel hbw
          have HV0 := hide (hv0.below HCP2.out.bel)
          have HSZ := hide hs
          clear hc hv0 hs
          go_wp2_with fail
          clear c0 c1 c2 c3 c4 c5 c6
          generalize hWx : wr.alloc _ = Wx
          have HWx : Hid (Below wr.heap.size wr Wx) := by rw [← hWx]; exact one_al _ _
          have hsx : Wx.heap.size = wr.heap.size + 1 := by rw [← hWx]; simp
          have FG : Hid (Box Wx wr.heap.size #[.int .i64 B.gs[L.length].nu, .string B.gs[L.length].tw, .string B.gs[L.length].gb, .slice p0 B.gs[L.length].vb.length q0, .string B.gs[L.length].kd, .string B.gs[L.length].tm, .string B.gs[L.length].pf]) := by rw [← hWx]; exact Box.new _ _ _ _ rfl
          clear hWx
          refine (l5RuleO_any lo B.gs[L.length].ru _ _ (HV0.out.below HWx.out) (HN1.out.2 L.length hlt)).mono ?_
          rintro e w1 ⟨z0, rfl, hb1, hO0⟩
          obtain ⟨s0, t0, rfl⟩ := hO0.form
          have hs1 := hb1.size
          have HW1 : Hid (Below wr.heap.size wr w1) := bt HWx.out hb1
          have FG1 := hide (FG.out.on hb1)
          have HI0 : Hid (IntsOwn Wx.heap.size w1.heap.size w1 (.slice s0 B.gs[L.length].vb.length t0) B.gs[L.length].vb) := hO0
          have y4 : w1.cell? ⟨w.heap.size + 2, 4, none⟩ = some u := (HW1.out.cell (p := ⟨w.heap.size + 2, 4, none⟩) (by simp only []; omega)).trans x4
          clear hO0 hb1 HWx FG
          have g0 := FG1.out.cell
          have g1 := FG1.out.free
          have hq0 : wr.heap.size < Wx.heap.size := by omega
          go_wp2_with (at_builtin
                       refine wpList_append_lies _ rfl (.tmp 49) (.tmp 51) 33 rfl M 91 ig (.agg #[.int .i64 0, .string ⟨#[]⟩, .string ⟨#[]⟩, .slice none 0 0, .string ⟨#[]⟩, .string ⟨#[]⟩, .string ⟨#[]⟩]) 7 112 Try.underlying33 HIG.out.1 HIG.out.2.1 HIG.out.2.2.1 HIG.out.2.2.2 rfl (by decide) u L.length (Grgs L) rfl (Below.ownsB HG.out.own (below_q4 HW1.out _ _ _ _ _ _ _ _ _)) ⟨w1.heap.size, 0, none⟩ 1 1 (Grcs (B.gs[L.length], .slice s0 B.gs[L.length].vb.length t0)) rfl rfl (cell_new7 _ _ _ _ (size_q4 _ _ _ _ _ _ _ _ _ _)) (grcs_one _ _ _ _) (by decide) (by unfold maxLen; omega) (by omega) (Nat.le_trans hsz' (below_q4 HW1.out _ _ _ _ _ _ _ _ _).size) _ rfl ?_
                       intro g cap w4 hown4 hgrow4 hat4 hlt4
                       have HBM : Hid (Below M wr w4) := ((below_q4 HW1.out _ _ _ _ _ _ _ _ _).mono hsz').trans (ownsB_grown (Below.ownsB HG.out.own (below_q4 HW1.out _ _ _ _ _ _ _ _ _)) hgrow4 (Nat.le_trans hsz' (below_q4 HW1.out _ _ _ _ _ _ _ _ _).size))
                       have HB4 : Hid (Below (w.heap.size + 3) wr w4) := HBM.out.mono hM3
                       have y5 : w4.cell? ⟨w.heap.size + 2, 4, none⟩ = some u := (HB4.out.cell (p := ⟨w.heap.size + 2, 4, none⟩) (by simp only []; omega)).trans x4
                       have y6 : w4.frozen? ⟨w.heap.size + 2, 4, none⟩ = false := (HCP2.out.on HB4.out).out.free 4
                       have HGN : Hid (GrGrow M w4 (.slice (some ⟨g, 0, none⟩) (L.length + 1) cap) (L ++ [(B.gs[L.length], .slice s0 B.gs[L.length].vb.length t0)]) (fun i => if i < L.length then c i else (Wx.heap.size, w1.heap.size))) :=
                         HG.out.snoc (below_q4 HW1.out _ _ _ _ _ _ _ _ _) (B.gs[L.length], .slice s0 B.gs[L.length].vb.length t0) HSZ.out (Nat.le_of_lt hq0) (size_q4' _ _ _ _ _ _ _ _ _ _ _) hsz' hs1 (ints_q4 HI0.out hq0 _ _ _ _ _ _ _ _ _) hown4 hgrow4 hat4
                       clear hown4 hgrow4 hat4)
          go_roundw
          case rel => exact ⟨L.length + 1, L ++ [(B.gs[L.length], .slice s0 B.gs[L.length].vb.length t0)], _, _, by go_num, by omega, (HCP2.out.on HB4.out).set 4 _ (by simp), (HOB2.out.touch (Touch.ofBelow HBM.out) (Or.inl (Nat.le_refl _))).setLow (by simp only []; omega) _, HGN.out.touch (Touch.setB _ _ _ _) hM3, take_map_snoc HX.out hlt rfl, by have := HBM.out.size; simp [World.setCell]; omega⟩
          case measure => simp [intOf]; omega
        · have HGB : Hid (GrsOwn M wr.heap.size wr u B.gs) := HG.out.owns (by rw [HX.out, show L.length = B.gs.length by omega, List.take_length])
          obtain ⟨b0, m0, rfl⟩ := HOB2.out.form
          obtain ⟨b1, m1, rfl⟩ := HGB.out.form
          have x5 := HCP2.out.out.cell 5
          have x6 := HCP2.out.out.cell 6
          have b5 := HCP2.out.inn.cell 5
          have b6 := HCP2.out.inn.cell 6
          simp at x5 x6 b5 b6
          have hge : (B.gs.length : Int) ≤ (L.length : Int) := by omega
          clear HG HX
          go_wp2_with (at_builtin
                       first
                       | (refine wpList_append_all rfl (.tmp 55) (.tmp 57) 44 rfl 155 il (.agg #[.string ⟨#[]⟩, .string ⟨#[]⟩, .int .i64 0, .int .i64 0]) 4 48 Try.underlying44 HIL.out.1 HIL.out.2.1 HIL.out.2.2.1 HIL.out.2.2.2 rfl (by decide) rfl a2 B.ls.length k2 (Levs B.ls) rfl (Levs_len _) HNL.out.1 (fun ad e => HNL.out.2 ad e _ HCP2.out.bel) (Levs_one _) (by unfold maxLen; omega) (by omega) ?_
                          intro v2 w4 hown4 hb4
                          have HO2 : Hid (LesOwn wr.heap.size w4.heap.size w4 v2 B.ls) := Levs_own hown4 HZL.out
                          obtain ⟨b2, m2, rfl⟩ := HO2.out.form
                          have HB4 := hide hb4
                          have HC4 := hide (HCP2.out.on (hb4.mono (Nat.le_trans hM3 hsz')))
                          have y5 : w4.cell? ⟨w.heap.size + 2, 5, none⟩ = some (.slice none 0 0) := HC4.out.out.cell 5
                          have y6 : w4.cell? ⟨w.heap.size + 2, 6, none⟩ = some (.slice none 0 0) := HC4.out.out.cell 6
                          have z5 : w4.frozen? ⟨w.heap.size + 2, 5, none⟩ = false := HC4.out.out.free 5
                          have b66 : w4.cell? ⟨w.heap.size, 6, none⟩ = some (.slice a3 B.ps.length k3) := HC4.out.inn.cell 6
                          clear hown4 hb4 x5 x6 b5 b6)
                       | (refine wpList_append_all rfl (.tmp 61) (.tmp 63) 45 rfl 158 ip (.agg #[.string ⟨#[]⟩, .string ⟨#[]⟩, .string ⟨#[]⟩, .int .i64 0, .int .i64 0]) 5 64 Try.underlying45 HIP.out.1 HIP.out.2.1 HIP.out.2.2.1 HIP.out.2.2.2 rfl (by decide) rfl a3 B.ps.length k3 (Puvs B.ps) rfl (Puvs_len _) HNP.out.1 (fun ad e => HNP.out.2 ad e _ (HC4.out.bel.setCell (by simp only []; omega) _)) (Puvs_one _) (by unfold maxLen; omega) (by omega) ?_
                          intro v3 w6 hown6 hb6
                          have HO3 := hide (Puvs_own hown6 HZP.out)
                          obtain ⟨b3, m3, rfl⟩ := HO3.out.form
                          have hs5 : (w4.setCell ⟨w.heap.size + 1 + 1, 5, none⟩ (.slice b2 B.ls.length m2)).heap.size = w4.heap.size := by simp [World.setCell]
                          have hs6 := hb6.size
                          have HB6 := hide hb6
                          have HC6 := hide ((HC4.out.set 5 (.slice b2 B.ls.length m2) (by simp)).on (hb6.mono (by have := HB4.out.size; rw [hs5]; omega)))
                          have o0 := HC6.out.out.cell
                          have f0 := HC6.out.out.free
                          have r0 := HC6.out.res.cell
                          have g0 := HC6.out.res.free
                          clear hown6 hb6 y5 y6 z5 b66))
          refine bodyPost_ret (v := .agg #[.int .i64 B.now, .int .i64 B.tick, .int .i64 B.given, .slice b0 B.os.length m0, .slice b1 B.gs.length m1, .slice b2 B.ls.length m2, .slice b3 B.ps.length m3]) (by simp [results, Try.results49, go_sem, r0]) rfl ⟨_, _, _, _, _, _, _, _, rfl, ?_, ?_⟩
          · repeat (refine Below.setCell ?_ (by simp only []; omega) _)
            exact HC6.out.bel
          · refine BookOwn.wide (lo := w.heap.size + 3) (hi := w6.heap.size) ?_ (by omega) (by simp [World.setCell])
            iterate 8 (refine BookOwn.setLow ?_ (by simp only []; omega) _)
            rw [hs5] at hs6 HO3
            have hs4 := HB4.out.size
            exact ⟨w.heap.size + 3, M, M, wr.heap.size, wr.heap.size, w4.heap.size, w4.heap.size, w6.heap.size, ⟨by omega, by omega, by omega, by omega, by omega, by omega, by omega, by omega, by omega, by omega⟩, ((HOB2.out.below HB4.out).setLow (by simp only []; omega) _).below HB6.out, ((HGB.out.below HB4.out).setLow (by simp only []; omega) _).below HB6.out, (HO2.out.setLow (by simp only []; omega) _).below HB6.out, HO3.out⟩
end
end Go.Proofs.Ytmaagbnjpdijnaa

