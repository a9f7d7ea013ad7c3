import Derived.Test.YtfohnageehneoaaGreatUAK
import Derived.Test.YtfohnageehneoaaGreatUWN
import Derived.Deep.MidRow
import Derived.Test.YtfohnageehneoaaGreatUDA
import Derived.Test.YtfohnageehneoaaGreatUA1
namespace Go.Proofs.YtfohnageehneoaaGreat
open Go.RowKit Go.Deep

/-! a slip in memory -/
structure Sl where
  dr : ByteArray
  ak : Ak
  gn : Int
  ws : List Wn
def SlSmall (S : Sl) : Prop := AkSmall S.ak ∧ WnsSmall S.ws
structure SlipAt (lo : Nat) (w : World) (va ha qa wv : Value) (S : Sl) : Prop where
  ak : AskAt lo w va ha qa S.ak
  ws : WnsAt lo w wv S.ws
  sz : S.dr.size ≤ maxLen
theorem SlipAt.below {lo : Nat} {w w' : World} {va ha qa wv : Value} {S : Sl} (h : SlipAt lo w va ha qa wv S) (hb : Below w.heap.size w w') : SlipAt lo w' va ha qa wv S := ⟨h.ak.below hb, h.ws.below hb, h.sz⟩
theorem SlipAt.mono {lo lo' : Nat} {w : World} {va ha qa wv : Value} {S : Sl} (h : SlipAt lo w va ha qa wv S) (hl : lo' ≤ lo) : SlipAt lo' w va ha qa wv S := ⟨h.ak.mono hl, h.ws.mono hl, h.sz⟩
theorem AskAt.setCell {lo : Nat} {w : World} {va ha qa : Value} {A : Ak} (h : AskAt lo w va ha qa A) {p : Addr} (hp : p.block < lo) (u : Value) : AskAt lo (w.setCell p u) va ha qa A := ⟨h.vs.setCell hp u, h.hs.setCell hp u, h.vb.setCell hp u, h.sz⟩

section
variable (lo : Nat) (va ha qa wv : Value) (S : Sl) (w : World)

set_option maxHeartbeats 4000000 in
theorem szSlip_any (left : Int) (h0 : 0 ≤ left) (h1 : left ≤ 1048576) (h : SlipAt lo w va ha qa wv S) :
    Calls Tryz.prog 22 #[.agg #[.string S.dr, .string S.ak.who, .int .i64 S.ak.verb, .string S.ak.kd, .string S.ak.nm, .string S.ak.tm, va, ha, .int .i64 S.ak.seen, .string S.ak.hold, .string S.ak.tw, qa, .string S.ak.rk, .string S.ak.rt, .string S.ak.rp, .int .i64 S.ak.num, .int .i64 S.gn, wv], .int .i64 left] w
      fun e w' => ∃ r : Int, e = .returned (.int .i64 r) ∧ Below w.heap.size w w' ∧ -1 ≤ r ∧ r ≤ left ∧ (0 ≤ r → SlSmall S) := by
  have HL := hide h
  have y1 := h.sz
  unfold maxLen at y1
  obtain ⟨a0, k0, rfl⟩ := h.ak.vs.at.form'
  obtain ⟨a1, k1, rfl⟩ := h.ak.hs.at.form'
  obtain ⟨a2, k2, rfl⟩ := h.ak.vb.form
  obtain ⟨a3, k3, rfl⟩ := h.ws.form
  clear h
  by_cases n1 : left - (S.dr.size : Int) < 0
  · go_enter Tryz.func22, Tryz.ntmps22
    go_wp2
    go_ret
    exact ⟨-1, rfl, one_al _ _, by omega, by omega, fun h => by omega⟩
  go_enter Tryz.func22, Tryz.ntmps22
  go_wp2_with fail
  generalize hWa : w.alloc _ = Wa
  have HB0 : Hid (Below w.heap.size w Wa) := by rw [← hWa]; exact one_al _ _
  have FX : Hid (Box Wa w.heap.size #[.string S.dr, .string S.ak.who, .int .i64 S.ak.verb, .string S.ak.kd, .string S.ak.nm, .string S.ak.tm, .slice a0 S.ak.vs.length k0, .slice a1 S.ak.hs.length k1, .int .i64 S.ak.seen, .string S.ak.hold, .string S.ak.tw, .slice a2 S.ak.vb.length k2, .string S.ak.rk, .string S.ak.rt, .string S.ak.rp, .int .i64 S.ak.num, .int .i64 S.gn, .slice a3 S.ws.length k3]) := by rw [← hWa]; exact Box.new _ _ _ _ rfl
  clear hWa
  refine (szAsk_any lo _ _ _ S.ak _ _ (by omega) (by omega) (HL.out.below HB0.out).ak).mono ?_
  rintro e w1 ⟨q1, rfl, hb1, p1, p2, p3⟩
  have Q1 := hide p3
  have HB1 : Hid (Below w.heap.size w w1) := HB0.out.trans (hb1.mono HB0.out.size)
  replace FX := hide (FX.out.on hb1)
  clear p3 hb1 HB0
  by_cases m1 : q1 < 0
  · go_wp2
    go_ret
    exact ⟨-1, rfl, HB1.out, by omega, by omega, fun h => by omega⟩
  have c17 := FX.out.cell 17
  simp at c17
  go_wp2_with fail
  clear c17
  refine (szWns_any lo _ S.ws _ _ (by omega) (by omega) (HL.out.below HB1.out).ws).mono ?_
  rintro e w2 ⟨q2, rfl, hb2, p4, p5, p6⟩
  have Q2 := hide p6
  have HB2 : Hid (Below w.heap.size w w2) := HB1.out.trans (hb2.mono HB1.out.size)
  clear p6 hb2 HB1
  by_cases m2 : q2 < 0
  · go_wp2
    go_ret
    exact ⟨-1, rfl, HB2.out, by omega, by omega, fun h => by omega⟩
  go_wp2
  go_ret
  exact ⟨_, rfl, HB2.out, by omega, by omega, fun h => ⟨Q1.out (by omega), Q2.out (by omega)⟩⟩

set_option maxHeartbeats 4000000 in
theorem eqSlip_same (lo' : Nat) (va' ha' qa' wv' : Value) (h : SlipAt lo w va ha qa wv S) (h' : SlipAt lo' w va' ha' qa' wv' S) :
    Calls Tryz.prog 26 #[.agg #[.string S.dr, .string S.ak.who, .int .i64 S.ak.verb, .string S.ak.kd, .string S.ak.nm, .string S.ak.tm, va, ha, .int .i64 S.ak.seen, .string S.ak.hold, .string S.ak.tw, qa, .string S.ak.rk, .string S.ak.rt, .string S.ak.rp, .int .i64 S.ak.num, .int .i64 S.gn, wv], .agg #[.string S.dr, .string S.ak.who, .int .i64 S.ak.verb, .string S.ak.kd, .string S.ak.nm, .string S.ak.tm, va', ha', .int .i64 S.ak.seen, .string S.ak.hold, .string S.ak.tw, qa', .string S.ak.rk, .string S.ak.rt, .string S.ak.rp, .int .i64 S.ak.num, .int .i64 S.gn, wv']] w fun e w' => e = .returned (.bool true) ∧ Below w.heap.size w w' := by
  have HL := hide h
  have HR := hide h'
  obtain ⟨a0, k0, rfl⟩ := h.ak.vs.at.form'
  obtain ⟨a1, k1, rfl⟩ := h.ak.hs.at.form'
  obtain ⟨a2, k2, rfl⟩ := h.ak.vb.form
  obtain ⟨a3, k3, rfl⟩ := h.ws.form
  obtain ⟨d0, e0, rfl⟩ := h'.ak.vs.at.form'
  obtain ⟨d1, e1, rfl⟩ := h'.ak.hs.at.form'
  obtain ⟨d2, e2, rfl⟩ := h'.ak.vb.form
  obtain ⟨d3, e3, rfl⟩ := h'.ws.form
  clear h h'
  go_enter Tryz.func26, Tryz.ntmps26
  go_wp2_with fail
  generalize hWa : (World.alloc (w.alloc _) _) = Wa
  have HB0 : Hid (Below w.heap.size w Wa) := by rw [← hWa]; exact (one_al w _).alloc (by simp) _
  have HX0 : Hid (Box Wa w.heap.size #[.string S.dr, .string S.ak.who, .int .i64 S.ak.verb, .string S.ak.kd, .string S.ak.nm, .string S.ak.tm, .slice a0 S.ak.vs.length k0, .slice a1 S.ak.hs.length k1, .int .i64 S.ak.seen, .string S.ak.hold, .string S.ak.tw, .slice a2 S.ak.vb.length k2, .string S.ak.rk, .string S.ak.rt, .string S.ak.rp, .int .i64 S.ak.num, .int .i64 S.gn, .slice a3 S.ws.length k3]) := by rw [← hWa]; exact (Box.new _ _ _ _ rfl).on (one_al _ _)
  have HY0 : Hid (Box Wa (w.heap.size + 1) #[.string S.dr, .string S.ak.who, .int .i64 S.ak.verb, .string S.ak.kd, .string S.ak.nm, .string S.ak.tm, .slice d0 S.ak.vs.length e0, .slice d1 S.ak.hs.length e1, .int .i64 S.ak.seen, .string S.ak.hold, .string S.ak.tw, .slice d2 S.ak.vb.length e2, .string S.ak.rk, .string S.ak.rt, .string S.ak.rp, .int .i64 S.ak.num, .int .i64 S.gn, .slice d3 S.ws.length e3]) := by rw [← hWa]; exact Box.new _ _ _ _ (by simp)
  clear hWa
  refine (eqAsk_same lo _ _ _ S.ak _ lo' _ _ _ (HL.out.below HB0.out).ak (HR.out.below HB0.out).ak).mono ?_
  rintro e w1 ⟨rfl, hb1⟩
  have HX1 := hide (HX0.out.on hb1)
  have HY1 := hide (HY0.out.on hb1)
  have HB1 : Hid (Below w.heap.size w w1) := HB0.out.trans (hb1.mono HB0.out.size)
  clear hb1 HB0 HX0 HY0
  have c1 := HX1.out.cell 16
  have e1 := HY1.out.cell 16
  have c2 := HX1.out.cell 17
  have e2 := HY1.out.cell 17
  simp at c1 e1 c2 e2
  go_wp2_with fail
  clear c1 e1 c2 e2
  refine (eqWns_same lo lo' _ _ S.ws _ (HL.out.below HB1.out).ws (HR.out.below HB1.out).ws).mono ?_
  rintro e w2 ⟨rfl, hb2⟩
  have HB2 : Hid (Below w.heap.size w w2) := HB1.out.trans (hb2.mono HB1.out.size)
  clear hb2 HB1 HX1 HY1
  go_wp2
  go_ret
  exact ⟨rfl, HB2.out⟩

theorem size_setCls (b : Nat) : ∀ (vs : List Value) (o : Nat) (w : World), (w.setCells b o vs).heap.size = w.heap.size
  | [], _, _ => rfl
  | v :: vs, o, w => (size_setCls b vs (o + 1) (w.setCell ⟨b, o, none⟩ v)).trans (by simp [World.setCell])
theorem Below.setCells {n b : Nat} (hb : n ≤ b) : ∀ (vs : List Value) (o : Nat) {a w : World}, Below n a w → Below n a (w.setCells b o vs)
  | [], _, _, _, h => h
  | v :: vs, o, _, _, h => Below.setCells hb vs (o + 1) (h.setCell hb v)
theorem AskAt.setCells {lo b : Nat} (hb : b < lo) {va ha qa : Value} {A : Ak} : ∀ (vs : List Value) (o : Nat) {w : World}, AskAt lo w va ha qa A → AskAt lo (w.setCells b o vs) va ha qa A
  | [], _, _, h => h
  | v :: vs, o, _, h => AskAt.setCells hb vs (o + 1) (h.setCell hb v)
theorem WnsAt.setCells {lo b : Nat} (hb : b < lo) {u : Value} {L : List Wn} : ∀ (vs : List Value) (o : Nat) {w : World}, WnsAt lo w u L → WnsAt lo (w.setCells b o vs) u L
  | [], _, _, h => h
  | v :: vs, o, _, h => WnsAt.setCells hb vs (o + 1) (h.set hb v)
theorem Box.there {w : World} {β n : Nat} {cs : Array Value} (h : Box w β cs) (hn : cs.size = n) : w.there β 0 n := fun j hj => by
  rw [Nat.zero_add, h.cell j, h.free j]
  exact ⟨by rw [Array.getElem?_eq_getElem (by omega)]; rfl, rfl⟩
theorem Box.range {w : World} {β : Nat} {cs : Array Value} (h : Box w β cs) {l : List Value} (hl : cs = l.toArray) : w.rangeAt β 0 l := fun j v hv => by
  rw [Nat.zero_add, h.cell j, hl]
  simpa using hv
theorem Box.full {w : World} {β : Nat} {cs cs' : Array Value} (h : Box w β cs) (hs : cs.size = cs'.size) : Box (w.setCells β 0 cs'.toList) β cs' := by
  refine ⟨by rw [size_setCls]; exact h.lt, fun i => ?_, fun i => by rw [World.frozen?_setCells]; exact h.free i⟩
  by_cases hi : i < cs'.size
  · have := World.cell?_setCells_in β cs'.toList 0 w (fun j hj => (h.there rfl j (by rw [hs]; simpa using hj)).1) i (by simpa using hi)
    rw [Nat.zero_add] at this
    rw [this, Array.getElem?_eq_getElem hi]
    simp
  · rw [World.cell?_setCells_out β cs'.toList 0 w ⟨β, i, none⟩ (fun _ _ => Or.inr (by simp; omega)), h.cell i, Array.getElem?_eq_none (by omega), Array.getElem?_eq_none (by omega)]
theorem results_cell_mid {P : Program} {fn : Func} {p : Tmp} {ty : TypeId} (h : fn.results = #[.cell p ty]) (tmps : Array Value) (w : World) (b o : Nat) (cs : List Value) (d : TypeDesc)
    (hp : tmps.getD p undef = .pointer (some ⟨b, o, none⟩)) (hc : w.rangeAt b o cs) (hu : P.underlying ty = some d) (hd : d.isRow = true) (hi : (P.info? ty).map (·.size) = some cs.length) :
    (results fn tmps).run P w = .ok (.agg cs.toArray) w := by
  have hp' : tmps[p]?.getD undef = .pointer (some ⟨b, o, none⟩) := by simpa using hp
  simp [results, h, hp', asAddr, run_loadVar_mid w b o ty cs d hc hu hd hi]
theorem slip_size : (Tryz.prog.info? 75).map (·.size) = some 18 := by kernel_rfl
/-- where the copy of a slip stands -/
structure SlIn (s : Nat) (w wr : World) (cb cx : Array Value) : Prop where
  bel : Below s w wr
  inn : Box wr s cb
  res : Box wr (s + 1) #[.string ⟨#[]⟩, .string ⟨#[]⟩, .int .i64 0, .string ⟨#[]⟩, .string ⟨#[]⟩, .string ⟨#[]⟩, .slice none 0 0, .slice none 0 0, .int .i64 0, .string ⟨#[]⟩, .string ⟨#[]⟩, .slice none 0 0, .string ⟨#[]⟩, .string ⟨#[]⟩, .string ⟨#[]⟩, .int .i64 0, .int .i64 0, .slice none 0 0]
  out : Box wr (s + 2) cx
theorem SlIn.on {s : Nat} {w wr w' : World} {cb cx : Array Value} (h : SlIn s w wr cb cx) (hb : Below (s + 3) wr w') : SlIn s w w' cb cx :=
  ⟨h.bel.trans (hb.mono (by omega)), h.inn.below hb (by omega), h.res.below hb (by omega), h.out.below hb (by omega)⟩
theorem SlIn.set {s : Nat} {w wr : World} {cb cx : Array Value} (h : SlIn s w wr cb cx) (k : Nat) (u : Value) (hk : k < cx.size) : SlIn s w (wr.setCell ⟨s + 2, k, none⟩ u) cb (cx.set k u hk) :=
  ⟨h.bel.setCell (by simp only []; omega) _, h.inn.setFar (by simp only []; omega) _, h.res.setFar (by simp only []; omega) _, h.out.set (k := k) u hk⟩

set_option maxRecDepth 20000 in
set_option maxHeartbeats 8000000 in
theorem toSlip_any (h : SlipAt lo w va ha qa wv S) (hn : SlSmall S) :
    Calls Tryz.prog 24 #[.agg #[.string S.dr, .string S.ak.who, .int .i64 S.ak.verb, .string S.ak.kd, .string S.ak.nm, .string S.ak.tm, va, ha, .int .i64 S.ak.seen, .string S.ak.hold, .string S.ak.tw, qa, .string S.ak.rk, .string S.ak.rt, .string S.ak.rp, .int .i64 S.ak.num, .int .i64 S.gn, wv]] w
      fun e w' => ∃ b0 m0 b1 m1 b2 m2 b3 m3, e = .returned (.agg #[.string S.dr, .string S.ak.who, .int .i64 S.ak.verb, .string S.ak.kd, .string S.ak.nm, .string S.ak.tm, .slice b0 S.ak.vs.length m0, .slice b1 S.ak.hs.length m1, .int .i64 S.ak.seen, .string S.ak.hold, .string S.ak.tw, .slice b2 S.ak.vb.length m2, .string S.ak.rk, .string S.ak.rt, .string S.ak.rp, .int .i64 S.ak.num, .int .i64 S.gn, .slice b3 S.ws.length m3]) ∧ Below w.heap.size w w' ∧
        SlipAt w.heap.size w' (.slice b0 S.ak.vs.length m0) (.slice b1 S.ak.hs.length m1) (.slice b2 S.ak.vb.length m2) (.slice b3 S.ws.length m3) S := by
  have HL := hide h
  have HSZ := hide h.sz
  obtain ⟨a0, k0, rfl⟩ := h.ak.vs.at.form'
  obtain ⟨a1, k1, rfl⟩ := h.ak.hs.at.form'
  obtain ⟨a2, k2, rfl⟩ := h.ak.vb.form
  obtain ⟨a3, k3, rfl⟩ := h.ws.form
  obtain ⟨hn0, hn1⟩ := hn
  have HN0 := hide hn0
  have HN1 := hide hn1
  clear h hn0 hn1
  go_enter Tryz.func24, Tryz.ntmps24
  go_step
  go_step
  go_cut [1, 2] (fun p q wc => p = .pointer (some ⟨w.heap.size, 0, none⟩) ∧ q = .pointer (some ⟨w.heap.size + 1, 0, none⟩) ∧ Below w.heap.size w wc ∧ Box wc w.heap.size #[.string S.dr, .string S.ak.who, .int .i64 S.ak.verb, .string S.ak.kd, .string S.ak.nm, .string S.ak.tm, .slice a0 S.ak.vs.length k0, .slice a1 S.ak.hs.length k1, .int .i64 S.ak.seen, .string S.ak.hold, .string S.ak.tw, .slice a2 S.ak.vb.length k2, .string S.ak.rk, .string S.ak.rt, .string S.ak.rp, .int .i64 S.ak.num, .int .i64 S.gn, .slice a3 S.ws.length k3] ∧ Box wc (w.heap.size + 1) #[.string ⟨#[]⟩, .string ⟨#[]⟩, .int .i64 0, .string ⟨#[]⟩, .string ⟨#[]⟩, .string ⟨#[]⟩, .slice none 0 0, .slice none 0 0, .int .i64 0, .string ⟨#[]⟩, .string ⟨#[]⟩, .slice none 0 0, .string ⟨#[]⟩, .string ⟨#[]⟩, .string ⟨#[]⟩, .int .i64 0, .int .i64 0, .slice none 0 0] ∧ wc.heap.size = w.heap.size + 2)
  case first =>
    go_wp2
    go_meet
    exact ⟨rfl, rfl, (one_al w _).alloc (by simp) _, (Box.new _ _ _ _ rfl).on (one_al _ _), Box.new _ _ _ _ (by simp), by simp⟩
  case rest =>
  obtain ⟨rfl, rfl, hb0, hi0, hr0, hz0⟩ := hcut
  go_step
  go_step
  go_cut [3] (fun p wc => p = .pointer (some ⟨w.heap.size + 2, 0, none⟩) ∧ SlIn w.heap.size w wc #[.string S.dr, .string S.ak.who, .int .i64 S.ak.verb, .string S.ak.kd, .string S.ak.nm, .string S.ak.tm, .slice a0 S.ak.vs.length k0, .slice a1 S.ak.hs.length k1, .int .i64 S.ak.seen, .string S.ak.hold, .string S.ak.tw, .slice a2 S.ak.vb.length k2, .string S.ak.rk, .string S.ak.rt, .string S.ak.rp, .int .i64 S.ak.num, .int .i64 S.gn, .slice a3 S.ws.length k3] #[.string ⟨#[]⟩, .string ⟨#[]⟩, .int .i64 0, .string ⟨#[]⟩, .string ⟨#[]⟩, .string ⟨#[]⟩, .slice none 0 0, .slice none 0 0, .int .i64 0, .string ⟨#[]⟩, .string ⟨#[]⟩, .slice none 0 0, .string ⟨#[]⟩, .string ⟨#[]⟩, .string ⟨#[]⟩, .int .i64 0, .int .i64 0, .slice none 0 0])
  case first =>
    go_wp2
    go_meet
    exact ⟨by simp, hb0.alloc (by omega) _, hi0.on (one_al _ _), hr0.on (one_al _ _), Box.new _ _ _ _ hz0⟩
  case rest =>
  clear hb0 hi0 hr0 hz0
  obtain ⟨rfl, H1⟩ := hcut
  go_step
  go_step
  go_cut [] (fun wc => SlIn w.heap.size w wc #[.string S.dr, .string S.ak.who, .int .i64 S.ak.verb, .string S.ak.kd, .string S.ak.nm, .string S.ak.tm, .slice a0 S.ak.vs.length k0, .slice a1 S.ak.hs.length k1, .int .i64 S.ak.seen, .string S.ak.hold, .string S.ak.tw, .slice a2 S.ak.vb.length k2, .string S.ak.rk, .string S.ak.rt, .string S.ak.rp, .int .i64 S.ak.num, .int .i64 S.gn, .slice a3 S.ws.length k3] #[.string S.dr, .string ⟨#[]⟩, .int .i64 0, .string ⟨#[]⟩, .string ⟨#[]⟩, .string ⟨#[]⟩, .slice none 0 0, .slice none 0 0, .int .i64 0, .string ⟨#[]⟩, .string ⟨#[]⟩, .slice none 0 0, .string ⟨#[]⟩, .string ⟨#[]⟩, .string ⟨#[]⟩, .int .i64 0, .int .i64 0, .slice none 0 0])
  case first =>
    have i0 := H1.inn.cell 0
    have o0 := H1.out.cell 0
    have f0 := H1.out.free 0
    simp at i0 o0
    go_wp2
    go_meet
    exact H1.set 0 _ (by simp)
  case rest =>
  clear H1
  have H2 := hide hcut
  clear hcut
  go_step
  go_step
  go_cut [] (fun wc => ∃ b0 m0 b1 m1 b2 m2, SlIn w.heap.size w wc #[.string S.dr, .string S.ak.who, .int .i64 S.ak.verb, .string S.ak.kd, .string S.ak.nm, .string S.ak.tm, .slice a0 S.ak.vs.length k0, .slice a1 S.ak.hs.length k1, .int .i64 S.ak.seen, .string S.ak.hold, .string S.ak.tw, .slice a2 S.ak.vb.length k2, .string S.ak.rk, .string S.ak.rt, .string S.ak.rp, .int .i64 S.ak.num, .int .i64 S.gn, .slice a3 S.ws.length k3] #[.string S.dr, .string S.ak.who, .int .i64 S.ak.verb, .string S.ak.kd, .string S.ak.nm, .string S.ak.tm, .slice b0 S.ak.vs.length m0, .slice b1 S.ak.hs.length m1, .int .i64 S.ak.seen, .string S.ak.hold, .string S.ak.tw, .slice b2 S.ak.vb.length m2, .string S.ak.rk, .string S.ak.rt, .string S.ak.rp, .int .i64 S.ak.num, .int .i64 0, .slice none 0 0] ∧ AskAt (w.heap.size + 3) wc (.slice b0 S.ak.vs.length m0) (.slice b1 S.ak.hs.length m1) (.slice b2 S.ak.vb.length m2) S.ak)
  case first =>
    have i0 := H2.out.inn.cell
    go_wp2_with fail
    clear i0
    refine (toAsk_any lo _ _ _ S.ak _ (HL.out.below H2.out.bel).ak HN0.out).mono ?_
    rintro e w0 ⟨b0, m0, b1, m1, b2, m2, rfl, hb0, hs0⟩
    have hz0 : w.heap.size + 3 ≤ _ := H2.out.out.lt
    have H3 := hide (H2.out.on (hb0.mono hz0))
    have HA := hide (hs0.mono hz0)
    clear hb0 hs0 hz0
    have o0 := H3.out.out.cell
    have f0 := H3.out.out.free
    go_wp2
    go_meet
    exact ⟨_, _, _, _, _, _, (((((((((((((((H3.out.set 1 (.string S.ak.who) (by simp)).set 2 (.int .i64 S.ak.verb) (by simp)).set 3 (.string S.ak.kd) (by simp)).set 4 (.string S.ak.nm) (by simp)).set 5 (.string S.ak.tm) (by simp)).set 6 (.slice b0 S.ak.vs.length m0) (by simp)).set 7 (.slice b1 S.ak.hs.length m1) (by simp)).set 8 (.int .i64 S.ak.seen) (by simp)).set 9 (.string S.ak.hold) (by simp)).set 10 (.string S.ak.tw) (by simp)).set 11 (.slice b2 S.ak.vb.length m2) (by simp)).set 12 (.string S.ak.rk) (by simp)).set 13 (.string S.ak.rt) (by simp)).set 14 (.string S.ak.rp) (by simp)).set 15 (.int .i64 S.ak.num) (by simp)), (((((((((((((((HA.out.setCell (by simp only []; omega) (.string S.ak.who)).setCell (by simp only []; omega) (.int .i64 S.ak.verb)).setCell (by simp only []; omega) (.string S.ak.kd)).setCell (by simp only []; omega) (.string S.ak.nm)).setCell (by simp only []; omega) (.string S.ak.tm)).setCell (by simp only []; omega) (.slice b0 S.ak.vs.length m0)).setCell (by simp only []; omega) (.slice b1 S.ak.hs.length m1)).setCell (by simp only []; omega) (.int .i64 S.ak.seen)).setCell (by simp only []; omega) (.string S.ak.hold)).setCell (by simp only []; omega) (.string S.ak.tw)).setCell (by simp only []; omega) (.slice b2 S.ak.vb.length m2)).setCell (by simp only []; omega) (.string S.ak.rk)).setCell (by simp only []; omega) (.string S.ak.rt)).setCell (by simp only []; omega) (.string S.ak.rp)).setCell (by simp only []; omega) (.int .i64 S.ak.num))⟩
  case rest =>
  clear H2
  obtain ⟨b0, m0, b1, m1, b2, m2, h3, hA⟩ := hcut
  have H3 := hide h3
  have HA := hide hA
  clear h3 hA
  go_step
  go_step
  go_cut [] (fun wc => SlIn w.heap.size w wc #[.string S.dr, .string S.ak.who, .int .i64 S.ak.verb, .string S.ak.kd, .string S.ak.nm, .string S.ak.tm, .slice a0 S.ak.vs.length k0, .slice a1 S.ak.hs.length k1, .int .i64 S.ak.seen, .string S.ak.hold, .string S.ak.tw, .slice a2 S.ak.vb.length k2, .string S.ak.rk, .string S.ak.rt, .string S.ak.rp, .int .i64 S.ak.num, .int .i64 S.gn, .slice a3 S.ws.length k3] #[.string S.dr, .string S.ak.who, .int .i64 S.ak.verb, .string S.ak.kd, .string S.ak.nm, .string S.ak.tm, .slice b0 S.ak.vs.length m0, .slice b1 S.ak.hs.length m1, .int .i64 S.ak.seen, .string S.ak.hold, .string S.ak.tw, .slice b2 S.ak.vb.length m2, .string S.ak.rk, .string S.ak.rt, .string S.ak.rp, .int .i64 S.ak.num, .int .i64 S.gn, .slice none 0 0] ∧ AskAt (w.heap.size + 3) wc (.slice b0 S.ak.vs.length m0) (.slice b1 S.ak.hs.length m1) (.slice b2 S.ak.vb.length m2) S.ak)
  case first =>
    have i0 := H3.out.inn.cell 16
    have o0 := H3.out.out.cell 16
    have f0 := H3.out.out.free 16
    simp at i0 o0
    go_wp2
    go_meet
    exact ⟨H3.out.set 16 _ (by simp), HA.out.setCell (by simp only []; omega) _⟩
  case rest =>
  clear H3 HA
  obtain ⟨h3, hA⟩ := hcut
  have H4 := hide h3
  have HA := hide hA
  clear h3 hA
  go_step
  go_step
  go_cut [] (fun wc => ∃ b3 m3, SlIn w.heap.size w wc #[.string S.dr, .string S.ak.who, .int .i64 S.ak.verb, .string S.ak.kd, .string S.ak.nm, .string S.ak.tm, .slice a0 S.ak.vs.length k0, .slice a1 S.ak.hs.length k1, .int .i64 S.ak.seen, .string S.ak.hold, .string S.ak.tw, .slice a2 S.ak.vb.length k2, .string S.ak.rk, .string S.ak.rt, .string S.ak.rp, .int .i64 S.ak.num, .int .i64 S.gn, .slice a3 S.ws.length k3] #[.string S.dr, .string S.ak.who, .int .i64 S.ak.verb, .string S.ak.kd, .string S.ak.nm, .string S.ak.tm, .slice b0 S.ak.vs.length m0, .slice b1 S.ak.hs.length m1, .int .i64 S.ak.seen, .string S.ak.hold, .string S.ak.tw, .slice b2 S.ak.vb.length m2, .string S.ak.rk, .string S.ak.rt, .string S.ak.rp, .int .i64 S.ak.num, .int .i64 S.gn, .slice b3 S.ws.length m3] ∧ AskAt (w.heap.size + 3) wc (.slice b0 S.ak.vs.length m0) (.slice b1 S.ak.hs.length m1) (.slice b2 S.ak.vb.length m2) S.ak ∧ WnsAt (w.heap.size + 3) wc (.slice b3 S.ws.length m3) S.ws)
  case first =>
    have i0 := H4.out.inn.cell 17
    simp at i0
    go_wp2_with fail
    clear i0
    refine (toWns_any lo _ S.ws _ (HL.out.below H4.out.bel).ws HN1.out).mono ?_
    rintro e w2 ⟨u3, rfl, hb2, hs2⟩
    obtain ⟨b3, m3, rfl⟩ := hs2.form
    have hz0 : w.heap.size + 3 ≤ _ := H4.out.out.lt
    have H5 := hide (H4.out.on (hb2.mono hz0))
    have HA5 := hide (HA.out.below hb2)
    have HW5 := hide (hs2.mono hz0)
    clear hb2 hs2 hz0
    have o0 := H5.out.out.cell 17
    have f0 := H5.out.out.free 17
    simp at o0
    go_wp2
    go_meet
    exact ⟨_, _, H5.out.set 17 _ (by simp), HA5.out.setCell (by simp only []; omega) _, HW5.out.set (by simp only []; omega) _⟩
  case rest =>
  clear H4 HA
  obtain ⟨b3, m3, h5, hA, hW⟩ := hcut
  have H5 := hide h5
  have HA := hide hA
  have HW := hide hW
  clear h5 hA hW
  go_step
  go_step
  go_cut [] (fun wc => Box wc (w.heap.size + 1) #[.string S.dr, .string S.ak.who, .int .i64 S.ak.verb, .string S.ak.kd, .string S.ak.nm, .string S.ak.tm, .slice b0 S.ak.vs.length m0, .slice b1 S.ak.hs.length m1, .int .i64 S.ak.seen, .string S.ak.hold, .string S.ak.tw, .slice b2 S.ak.vb.length m2, .string S.ak.rk, .string S.ak.rt, .string S.ak.rp, .int .i64 S.ak.num, .int .i64 S.gn, .slice b3 S.ws.length m3] ∧ Below w.heap.size w wc ∧ AskAt (w.heap.size + 3) wc (.slice b0 S.ak.vs.length m0) (.slice b1 S.ak.hs.length m1) (.slice b2 S.ak.vb.length m2) S.ak ∧ WnsAt (w.heap.size + 3) wc (.slice b3 S.ws.length m3) S.ws)
  case first =>
    go_wp2_with (first
      | (refine wpList_load_mid rfl 75 (.tmp 3) rfl (w.heap.size + 2) 0 rfl [.string S.dr, .string S.ak.who, .int .i64 S.ak.verb, .string S.ak.kd, .string S.ak.nm, .string S.ak.tm, .slice b0 S.ak.vs.length m0, .slice b1 S.ak.hs.length m1, .int .i64 S.ak.seen, .string S.ak.hold, .string S.ak.tw, .slice b2 S.ak.vb.length m2, .string S.ak.rk, .string S.ak.rt, .string S.ak.rp, .int .i64 S.ak.num, .int .i64 S.gn, .slice b3 S.ws.length m3] _ (H5.out.out.range rfl) Tryz.underlying75 rfl slip_size ?_)
      | (refine wpList_store_mid rfl 75 (.tmp 2) (.tmp 18) rfl (w.heap.size + 1) 0 #[.string S.dr, .string S.ak.who, .int .i64 S.ak.verb, .string S.ak.kd, .string S.ak.nm, .string S.ak.tm, .slice b0 S.ak.vs.length m0, .slice b1 S.ak.hs.length m1, .int .i64 S.ak.seen, .string S.ak.hold, .string S.ak.tw, .slice b2 S.ak.vb.length m2, .string S.ak.rk, .string S.ak.rt, .string S.ak.rp, .int .i64 S.ak.num, .int .i64 S.gn, .slice b3 S.ws.length m3] rfl rfl (H5.out.res.there rfl) slip_size (by simp [Value.oneCell']) ?_))
    go_meet
    exact ⟨H5.out.res.full rfl, Below.setCells (by omega) _ _ H5.out.bel, AskAt.setCells (by omega) _ _ HA.out, WnsAt.setCells (by omega) _ _ HW.out⟩
  case rest =>
  clear H5 HA HW
  obtain ⟨hB, hb, hA, hW⟩ := hcut
  have HB := hide hb
  have HA := hide hA
  have HW := hide hW
  have HX := hide hB
  clear hB hb hA hW
  go_wp2
  refine bodyPost_ret (v := .agg #[.string S.dr, .string S.ak.who, .int .i64 S.ak.verb, .string S.ak.kd, .string S.ak.nm, .string S.ak.tm, .slice b0 S.ak.vs.length m0, .slice b1 S.ak.hs.length m1, .int .i64 S.ak.seen, .string S.ak.hold, .string S.ak.tw, .slice b2 S.ak.vb.length m2, .string S.ak.rk, .string S.ak.rt, .string S.ak.rp, .int .i64 S.ak.num, .int .i64 S.gn, .slice b3 S.ws.length m3]) (results_cell_mid Tryz.results24 _ _ (w.heap.size + 1) 0 [.string S.dr, .string S.ak.who, .int .i64 S.ak.verb, .string S.ak.kd, .string S.ak.nm, .string S.ak.tm, .slice b0 S.ak.vs.length m0, .slice b1 S.ak.hs.length m1, .int .i64 S.ak.seen, .string S.ak.hold, .string S.ak.tw, .slice b2 S.ak.vb.length m2, .string S.ak.rk, .string S.ak.rt, .string S.ak.rp, .int .i64 S.ak.num, .int .i64 S.gn, .slice b3 S.ws.length m3] _ rfl (HX.out.range rfl) Tryz.underlying75 rfl slip_size) rfl ⟨_, _, _, _, _, _, _, _, rfl, HB.out, HA.out.mono (by omega), HW.out.mono (by omega), HSZ.out⟩
end
end Go.Proofs.YtfohnageehneoaaGreat

