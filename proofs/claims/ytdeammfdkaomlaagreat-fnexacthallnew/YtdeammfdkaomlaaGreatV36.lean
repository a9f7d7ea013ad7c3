import Derived.Test.YtdeammfdkaomlaaGreatV35
import Derived.Deep.MidRow
namespace Go.Proofs.YtdeammfdkaomlaaGreat
open Go.RowKit Go.Deep

structure Ho where
  tm : List Tm
  gr : List Gr
def HoSmall (U : Ho) : Prop := TmsFew U.tm ∧ GrsSmall U.gr
structure HoAt (lo : Nat) (w : World) (v0 v1 : Value) (U : Ho) : Prop where
  l0 : TmsAt lo w v0 U.tm
  l1 : GrsAt lo w v1 U.gr
theorem HoAt.below {lo : Nat} {w w' : World} {v0 v1 : Value} {U : Ho} (h : HoAt lo w v0 v1 U) (hb : Below w.heap.size w w') : HoAt lo w' v0 v1 U := ⟨h.l0.below hb, h.l1.below hb⟩
theorem HoAt.mono {lo lo' : Nat} {w : World} {v0 v1 : Value} {U : Ho} (h : HoAt lo w v0 v1 U) (hl : lo' ≤ lo) : HoAt lo' w v0 v1 U := ⟨h.l0.mono hl, h.l1.mono hl⟩
theorem HoAt.set {lo : Nat} {w : World} {v0 v1 : Value} {U : Ho} (h : HoAt lo w v0 v1 U) {p : Addr} (hp : p.block < lo) (u : Value) : HoAt lo (w.setCell p u) v0 v1 U := ⟨h.l0.set hp u, h.l1.set hp u⟩
/-- its cells -/
def hoL (U : Ho) (a0 : Option Addr) (k0 : Nat) (a1 : Option Addr) (k1 : Nat) : List Value := [.slice a0 U.tm.length k0, .slice a1 U.gr.length k1]
/-- its cells, and what they lead to -/
def HoC (lo : Nat) (w : World) (cs : List Value) (U : Ho) : Prop := ∃ a0 k0 a1 k1, cs = hoL U a0 k0 a1 k1 ∧ HoAt lo w (.slice a0 U.tm.length k0) (.slice a1 U.gr.length k1) U
theorem HoC.below {lo : Nat} {w w' : World} {cs : List Value} {U : Ho} (h : HoC lo w cs U) (hb : Below w.heap.size w w') : HoC lo w' cs U := by
  obtain ⟨a0, k0, a1, k1, h1, h2⟩ := h
  exact ⟨a0, k0, a1, k1, h1, h2.below hb⟩
theorem HoC.mono {lo lo' : Nat} {w : World} {cs : List Value} {U : Ho} (h : HoC lo w cs U) (hl : lo' ≤ lo) : HoC lo' w cs U := by
  obtain ⟨a0, k0, a1, k1, h1, h2⟩ := h
  exact ⟨a0, k0, a1, k1, h1, h2.mono hl⟩
theorem HoC.set {lo : Nat} {w : World} {cs : List Value} {U : Ho} (h : HoC lo w cs U) {p : Addr} (hp : p.block < lo) (u : Value) : HoC lo (w.setCell p u) cs U := by
  obtain ⟨a0, k0, a1, k1, h1, h2⟩ := h
  exact ⟨a0, k0, a1, k1, h1, h2.set hp u⟩
theorem HoC.len {lo : Nat} {w : World} {cs : List Value} {U : Ho} (h : HoC lo w cs U) : cs.length = 2 := by
  obtain ⟨a0, k0, a1, k1, h1, h2⟩ := h
  rw [h1]; rfl
theorem HoC.one {lo : Nat} {w : World} {cs : List Value} {U : Ho} (h : HoC lo w cs U) : Array.all cs.toArray (·.oneCell') = true := by
  obtain ⟨a0, k0, a1, k1, h1, h2⟩ := h
  rw [h1]
  unfold hoL
  simp [Value.oneCell']

set_option maxHeartbeats 8000000 in
theorem szHo_c (lo : Nat) (cs : List Value) (U : Ho) (left : Int) (w : World) (h0 : 0 ≤ left) (h1 : left ≤ 1048576) (h : HoC lo w cs U) :
    Calls Tryz.prog 5 #[.agg cs.toArray, .int .i64 left] w
      fun e w' => ∃ r : Int, e = .returned (.int .i64 r) ∧ Below w.heap.size w w' ∧ -1 ≤ r ∧ r ≤ left ∧ (0 ≤ r → HoSmall U) := by
  obtain ⟨a0, k0, a1, k1, rfl, h⟩ := h
  show Calls Tryz.prog 5 #[.agg #[.slice a0 U.tm.length k0, .slice a1 U.gr.length k1], .int .i64 left] w _
  have HL := hide h
  clear h
  go_enter Tryz.func5, Tryz.ntmps5
  go_wp2_with fail
  generalize hWa : w.alloc _ = Wa
  have HB : Hid (Below w.heap.size w Wa) := by unfold Hid; rw [← hWa]; exact one_al _ _
  have FX : Hid (Box Wa w.heap.size #[.slice a0 U.tm.length k0, .slice a1 U.gr.length k1]) := by unfold Hid; rw [← hWa]; exact Box.new _ _ _ _ rfl
  clear hWa
  refine (szTms_any lo _ U.tm _ _ (by omega) (by omega) ((HL.out.below HB.out).l0)).mono ?_
  rintro e w0 ⟨q0, rfl, hb, p0a, p0b, p0c⟩
  have Q0 := hide p0c
  replace HB := hide (bt HB.out hb)
  replace FX := hide (FX.out.on hb)
  clear hb p0c
  by_cases m0 : q0 < 0
  · go_wp2
    go_ret
    exact ⟨-1, rfl, HB.out, by omega, by omega, fun h => by omega⟩
  have g0 := FX.out.cell
  go_wp2_with fail
  clear g0
  refine (szGrs_any lo _ U.gr _ _ (by omega) (by omega) ((HL.out.below HB.out).l1)).mono ?_
  rintro e w1 ⟨q1, rfl, hb, p1a, p1b, p1c⟩
  have Q1 := hide p1c
  replace HB := hide (bt HB.out hb)
  replace FX := hide (FX.out.on hb)
  clear hb p1c
  by_cases m1 : q1 < 0
  · go_wp2
    go_ret
    exact ⟨-1, rfl, HB.out, by omega, by omega, fun h => by omega⟩
  go_wp2
  go_ret
  exact ⟨_, rfl, HB.out, by omega, by omega, fun h => ⟨(by have := Q0.out (by omega); unfold TmsFew; omega), Q1.out (by omega)⟩⟩

set_option maxHeartbeats 8000000 in
theorem eqHo_c (lo lo' : Nat) (cs cs' : List Value) (U : Ho) (w : World) (h : HoC lo w cs U) (h' : HoC lo' w cs' U) :
    Calls Tryz.prog 10 #[.agg cs.toArray, .agg cs'.toArray] w fun e w' => e = .returned (.bool true) ∧ Below w.heap.size w w' := by
  obtain ⟨a0, k0, a1, k1, rfl, h⟩ := h
  obtain ⟨d0, e0, d1, e1, rfl, h'⟩ := h'
  show Calls Tryz.prog 10 #[.agg #[.slice a0 U.tm.length k0, .slice a1 U.gr.length k1], .agg #[.slice d0 U.tm.length e0, .slice d1 U.gr.length e1]] w _
  have HL := hide h
  have HR := hide h'
  clear h h'
  go_enter Tryz.func10, Tryz.ntmps10
  go_wp2_with fail
  generalize hWa : (World.alloc (w.alloc _) _) = Wa
  have HB : Hid (Below w.heap.size w Wa) := by unfold Hid; rw [← hWa]; exact (one_al w _).alloc (by simp) _
  have FX : Hid (Box Wa w.heap.size #[.slice a0 U.tm.length k0, .slice a1 U.gr.length k1]) := by unfold Hid; rw [← hWa]; exact (Box.new _ _ _ _ rfl).on (one_al _ _)
  have FY : Hid (Box Wa (w.heap.size + 1) #[.slice d0 U.tm.length e0, .slice d1 U.gr.length e1]) := by unfold Hid; rw [← hWa]; exact Box.new _ _ _ _ (by simp)
  clear hWa
  refine (eqTms_same lo lo' _ _ U.tm _ ((HL.out.below HB.out).l0) ((HR.out.below HB.out).l0)).mono ?_
  rintro e w0 ⟨rfl, hb⟩
  replace HB := hide (bt HB.out hb)
  replace FX := hide (FX.out.on hb)
  replace FY := hide (FY.out.on hb)
  clear hb
  have g0 := FX.out.cell
  have g1 := FY.out.cell
  go_wp2_with fail
  clear g0 g1
  refine (eqGrs_same lo lo' _ _ U.gr _ ((HL.out.below HB.out).l1) ((HR.out.below HB.out).l1)).mono ?_
  rintro e w1 ⟨rfl, hb⟩
  replace HB := hide (bt HB.out hb)
  replace FX := hide (FX.out.on hb)
  replace FY := hide (FY.out.on hb)
  clear hb
  have g0 := FX.out.cell
  have g1 := FY.out.cell
  go_wp2
  go_ret
  exact ⟨rfl, HB.out⟩

set_option maxRecDepth 20000 in
set_option maxHeartbeats 16000000 in
theorem toHo_c (lo : Nat) (cs : List Value) (U : Ho) (w : World) (h : HoC lo w cs U) (hn : HoSmall U) :
    Calls Tryz.prog 7 #[.agg cs.toArray] w
      fun e w' => ∃ cs', e = .returned (.agg cs'.toArray) ∧ Below w.heap.size w w' ∧ HoC w.heap.size w' cs' U := by
  obtain ⟨a0, k0, a1, k1, rfl, h⟩ := h
  show Calls Tryz.prog 7 #[.agg #[.slice a0 U.tm.length k0, .slice a1 U.gr.length k1]] w _
  have HL := hide h
  obtain ⟨hn0, hn1⟩ := hn
  clear h
  go_enter Tryz.func7, Tryz.ntmps7
  go_wp2_with fail
  obtain ⟨wz, hwz, FX, FR, FO, HB⟩ : ∃ wz, wz = ((w.alloc (.cells #[.slice a0 U.tm.length k0, .slice a1 U.gr.length k1] 25)).alloc (.cells #[.slice none 0 0, .slice none 0 0] 30)).alloc (.cells #[.slice none 0 0, .slice none 0 0] 30) ∧
      Hid (Box wz w.heap.size #[.slice a0 U.tm.length k0, .slice a1 U.gr.length k1]) ∧ Hid (Box wz (w.heap.size + 1) #[.slice none 0 0, .slice none 0 0]) ∧ Hid (Box wz (w.heap.size + 1 + 1) #[.slice none 0 0, .slice none 0 0]) ∧ Hid (Below w.heap.size w wz) :=
    ⟨_, rfl, ((Box.new w _ _ _ rfl).on (one_al _ _)).on (one_al _ _), (Box.new _ _ _ _ (by simp)).on (one_al _ _), Box.new _ _ _ _ (by simp), ((one_al _ _).trans ((one_al _ _).mono (by simp))).trans ((one_al _ _).mono (by simp; omega))⟩
  rw [← hwz]
  clear hwz
  generalize wz = v0 at *
  have hz0 : w.heap.size + 3 ≤ v0.heap.size := by have := FO.out.lt; omega
  refine (toTms_any lo _ U.tm _ ((HL.out.below HB.out).l0) hn0).mono ?_
  rintro e x0 ⟨u, rfl, hb, hs⟩
  obtain ⟨b0, m0, rfl⟩ := hs.form
  have N0 := hide (hs.mono hz0)
  replace FX := hide (FX.out.on hb)
  replace FR := hide (FR.out.on hb)
  replace FO := hide (FO.out.on hb)
  replace HB := hide (bt HB.out hb)
  clear hb hs hz0
  have g0 := FO.out.cell
  have g1 := FO.out.free
  have g2 := FX.out.cell
  go_wp2_with fail
  clear g0 g1 g2
  obtain ⟨v1, hwq, GX, GR, GO, GB, GN0⟩ : ∃ wq, wq = (x0.setCell ⟨w.heap.size + 1 + 1, 0, none⟩ (.slice b0 U.tm.length m0)) ∧ Hid (Box wq w.heap.size #[.slice a0 U.tm.length k0, .slice a1 U.gr.length k1]) ∧ Hid (Box wq (w.heap.size + 1) #[.slice none 0 0, .slice none 0 0]) ∧ Hid (Box wq (w.heap.size + 1 + 1) #[.slice b0 U.tm.length m0, .slice none 0 0]) ∧ Hid (Below w.heap.size w wq) ∧ Hid (TmsAt (w.heap.size + 3) wq (.slice b0 U.tm.length m0) U.tm) :=
    ⟨_, rfl, (FX.out.setFar (by simp only []; omega) _), (FR.out.setFar (by simp only []; omega) _), (FO.out.set (k := 0) (.slice b0 U.tm.length m0) (by simp)), (HB.out.setCell (by simp only []; omega) _), (N0.out.set (by simp only []; omega) _)⟩
  rw [← hwq]
  clear hwq FX FR FO HB N0
  have FX := GX
  have FR := GR
  have FO := GO
  have HB := GB
  have N0 := GN0
  clear GX GR GO GB GN0
  have hz1 : w.heap.size + 3 ≤ v1.heap.size := by have := FO.out.lt; omega
  refine (toGrs_any lo _ U.gr _ ((HL.out.below HB.out).l1) hn1).mono ?_
  rintro e x1 ⟨u, rfl, hb, hs⟩
  obtain ⟨b1, m1, rfl⟩ := hs.form
  have N1 := hide (hs.mono hz1)
  replace FX := hide (FX.out.on hb)
  replace FR := hide (FR.out.on hb)
  replace FO := hide (FO.out.on hb)
  replace HB := hide (bt HB.out hb)
  replace N0 := hide (N0.out.below hb)
  clear hb hs hz1
  have g0 := FO.out.cell
  have g1 := FO.out.free
  have g2 := FR.out.cell
  have g3 := FR.out.free
  have g4 := FX.out.cell
  go_wp2
  refine bodyPost_ret (v := .agg #[.slice b0 U.tm.length m0, .slice b1 U.gr.length m1]) (by simp [results, Tryz.results7, go_sem, g2]) rfl ⟨hoL U b0 m0 b1 m1, rfl, ?_, b0, m0, b1, m1, rfl, ⟨?_, ?_⟩⟩
  · repeat (refine Below.setCell ?_ (by simp only []; omega) _)
    exact HB.out
  · refine TmsAt.mono (lo := w.heap.size + 3) ?_ (by omega)
    repeat (refine TmsAt.set ?_ (by simp only []; omega) _)
    exact N0.out
  · refine GrsAt.mono (lo := w.heap.size + 3) ?_ (by omega)
    repeat (refine GrsAt.set ?_ (by simp only []; omega) _)
    exact N1.out
end Go.Proofs.YtdeammfdkaomlaaGreat
namespace Go.Proofs.YtdeammfdkaomlaaGreat
open Go.RowKit Go.Deep

theorem few_small {L : List Tm} (h : TmsFew L) : TmsSmall L := ⟨h, fun _ _ => trivial⟩
/-- a house of one's own -/
def HoOwn (lo hi : Nat) (w : World) (cs : List Value) (U : Ho) : Prop :=
  ∃ a0 k0 a1 k1, ∃ t0 t1 g0 g1 : Nat, cs = hoL U a0 k0 a1 k1 ∧ lo ≤ t0 ∧ t1 ≤ hi ∧ lo ≤ g0 ∧ g1 ≤ hi ∧ t1 ≤ g0 ∧ TmsOwn t0 t1 w (.slice a0 U.tm.length k0) U.tm ∧ GrsOwn g0 g1 w (.slice a1 U.gr.length k1) U.gr
theorem HoOwn.at {lo hi : Nat} {w : World} {cs : List Value} {U : Ho} (h : HoOwn lo hi w cs U) : HoC lo w cs U := by
  obtain ⟨a0, k0, a1, k1, t0, t1, g0, g1, h1, z1, z2, z3, z4, z5, h2, h3⟩ := h
  exact ⟨a0, k0, a1, k1, h1, ⟨h2.at.mono z1, h3.at.mono z3⟩⟩
theorem HoOwn.below {lo hi : Nat} {w w' : World} {cs : List Value} {U : Ho} (h : HoOwn lo hi w cs U) (hb : Below w.heap.size w w') : HoOwn lo hi w' cs U := by
  obtain ⟨a0, k0, a1, k1, t0, t1, g0, g1, h1, z1, z2, z3, z4, z5, h2, h3⟩ := h
  exact ⟨a0, k0, a1, k1, t0, t1, g0, g1, h1, z1, z2, z3, z4, z5, h2.below hb, h3.below hb⟩
theorem HoOwn.touch {lo hi lo' hi' : Nat} {w w' : World} {cs : List Value} {U : Ho} (h : HoOwn lo hi w cs U) (ht : Touch lo' hi' w w') (ho : hi ≤ lo' ∨ hi' ≤ lo) : HoOwn lo hi w' cs U := by
  obtain ⟨a0, k0, a1, k1, t0, t1, g0, g1, h1, z1, z2, z3, z4, z5, h2, h3⟩ := h
  exact ⟨a0, k0, a1, k1, t0, t1, g0, g1, h1, z1, z2, z3, z4, z5, h2.touch ht (by omega), h3.touch ht (by omega)⟩
def endHo (k : Int) (U : Ho) : Int := k + (posTm U.tm U.tm.length : Int) + (posGr U.gr U.gr.length : Int)

set_option maxHeartbeats 4000000 in
theorem markHo_any (lo hi : Nat) (cs : List Value) (U : Ho) (k : Int) (w : World) (h : HoOwn lo hi w cs U) (hn : HoSmall U) (h0 : 0 ≤ k) (hk : k ≤ 1000000000000000000) (hhi : hi ≤ w.heap.size) :
    Calls Tryz.prog 11 #[.agg cs.toArray, .int .i64 k] w fun e w' => e = .returned (.int .i64 (endHo k U)) ∧ Touch lo hi w w' := by
  obtain ⟨a0, k0, a1, k1, t0, t1, g0, g1, rfl, z1, z2, z3, z4, z5, h2, h3⟩ := h
  show Calls Tryz.prog 11 #[.agg #[.slice a0 U.tm.length k0, .slice a1 U.gr.length k1], .int .i64 k] w _
  have hl := few_small hn.1
  have hp := posTm_le hl (Nat.le_refl U.tm.length)
  have hl1 := hl.1
  have H2 := hide h2
  have H3 := hide h3
  have HN := hide hn
  have HT := hide hl
  clear h2 h3 hn
  go_enter Tryz.func11, Tryz.ntmps11
  go_wp2_with fail
  generalize hWa : w.alloc _ = Wa
  have HB : Hid (Below w.heap.size w Wa) := by unfold Hid; rw [← hWa]; exact one_al w _
  have FX : Hid (Box Wa w.heap.size #[.slice a0 U.tm.length k0, .slice a1 U.gr.length k1]) := by unfold Hid; rw [← hWa]; exact Box.new _ _ _ _ rfl
  clear hWa
  refine (markTms_any t0 t1 _ U.tm k _ (H2.out.below HB.out) HT.out h0 (by omega)).mono ?_
  rintro e w1 ⟨rfl, ht, -⟩
  have HTo : Hid (Touch lo hi w w1) := (Touch.below HB.out).trans (ht.wide z1 z2)
  replace FX := hide (FX.out.touch ht (by omega))
  replace H3 := hide ((H3.out.below HB.out).touch ht (by omega))
  clear ht
  have gc := FX.out.cell
  go_wp2_with fail
  clear gc
  refine (markGrs_any g0 g1 _ U.gr _ _ H3.out HN.out.2 (by omega) (by omega)).mono ?_
  rintro e w2 ⟨rfl, ht, -⟩
  replace HTo : Hid (Touch lo hi w w2) := HTo.out.trans (ht.wide z3 z4)
  go_wp2
  go_ret
  exact ⟨rfl, HTo.out⟩

set_option maxRecDepth 20000 in
set_option maxHeartbeats 16000000 in
theorem toHoO_any (lo : Nat) (cs : List Value) (U : Ho) (w : World) (h : HoC lo w cs U) (hn : HoSmall U) :
    Calls Tryz.prog 7 #[.agg cs.toArray] w
      fun e w' => ∃ cs', e = .returned (.agg cs'.toArray) ∧ Below w.heap.size w w' ∧ HoOwn w.heap.size w'.heap.size w' cs' U := by
  obtain ⟨a0, k0, a1, k1, rfl, h⟩ := h
  show Calls Tryz.prog 7 #[.agg #[.slice a0 U.tm.length k0, .slice a1 U.gr.length k1]] w _
  have HL := hide h
  obtain ⟨hn0, hn1⟩ := hn
  clear h
  go_enter Tryz.func7, Tryz.ntmps7
  go_wp2_with fail
  obtain ⟨wz, hwz, FX, FR, FO, HB⟩ : ∃ wz, wz = ((w.alloc (.cells #[.slice a0 U.tm.length k0, .slice a1 U.gr.length k1] 25)).alloc (.cells #[.slice none 0 0, .slice none 0 0] 30)).alloc (.cells #[.slice none 0 0, .slice none 0 0] 30) ∧
      Hid (Box wz w.heap.size #[.slice a0 U.tm.length k0, .slice a1 U.gr.length k1]) ∧ Hid (Box wz (w.heap.size + 1) #[.slice none 0 0, .slice none 0 0]) ∧ Hid (Box wz (w.heap.size + 1 + 1) #[.slice none 0 0, .slice none 0 0]) ∧ Hid (Below w.heap.size w wz) :=
    ⟨_, rfl, ((Box.new w _ _ _ rfl).on (one_al _ _)).on (one_al _ _), (Box.new _ _ _ _ (by simp)).on (one_al _ _), Box.new _ _ _ _ (by simp), ((one_al _ _).trans ((one_al _ _).mono (by simp))).trans ((one_al _ _).mono (by simp; omega))⟩
  rw [← hwz]
  clear hwz
  generalize wz = v0 at *
  have hz0 : w.heap.size + 3 ≤ v0.heap.size := by have := FO.out.lt; omega
  refine (toTmsO_any lo _ U.tm _ ((HL.out.below HB.out).l0) (few_small hn0)).mono ?_
  rintro e x0 ⟨u, rfl, hb, hs⟩
  obtain ⟨b0, m0, rfl⟩ := hs.form
  have N0 := hide hs
  replace FX := hide (FX.out.on hb)
  replace FR := hide (FR.out.on hb)
  replace FO := hide (FO.out.on hb)
  replace HB := hide (bt HB.out hb)
  clear hb hs
  have g0 := FO.out.cell
  have g1 := FO.out.free
  have g2 := FX.out.cell
  go_wp2_with fail
  clear g0 g1 g2
  obtain ⟨v1, hwq, GX, GR, GO, GB, GN0, HZX, HZV⟩ : ∃ wq, wq = (x0.setCell ⟨w.heap.size + 1 + 1, 0, none⟩ (.slice b0 U.tm.length m0)) ∧ Hid (Box wq w.heap.size #[.slice a0 U.tm.length k0, .slice a1 U.gr.length k1]) ∧ Hid (Box wq (w.heap.size + 1) #[.slice none 0 0, .slice none 0 0]) ∧ Hid (Box wq (w.heap.size + 1 + 1) #[.slice b0 U.tm.length m0, .slice none 0 0]) ∧ Hid (Below w.heap.size w wq) ∧ Hid (TmsOwn v0.heap.size x0.heap.size wq (.slice b0 U.tm.length m0) U.tm) ∧ Hid (wq.heap.size = x0.heap.size) ∧ Hid (w.heap.size + 3 ≤ v0.heap.size) :=
    ⟨_, rfl, (FX.out.setFar (by simp only []; omega) _), (FR.out.setFar (by simp only []; omega) _), (FO.out.set (k := 0) (.slice b0 U.tm.length m0) (by simp)), (HB.out.setCell (by simp only []; omega) _), (N0.out.setLow (by simp only []; omega) _), (by unfold Hid; simp [World.setCell]), hz0⟩
  rw [← hwq]
  clear hwq FX FR FO HB N0 hz0
  have FX := GX
  have FR := GR
  have FO := GO
  have HB := GB
  have N0 := GN0
  clear GX GR GO GB GN0
  have hz1 : w.heap.size + 3 ≤ v1.heap.size := by have := FO.out.lt; omega
  refine (toGrsO_any lo _ U.gr _ ((HL.out.below HB.out).l1) hn1).mono ?_
  rintro e x1 ⟨u, rfl, hb, hs⟩
  obtain ⟨b1, m1, rfl⟩ := hs.form
  have N1 := hide hs
  have hzx : x0.heap.size = v1.heap.size := HZX.out.symm
  replace FX := hide (FX.out.on hb)
  replace FR := hide (FR.out.on hb)
  replace FO := hide (FO.out.on hb)
  replace HB := hide (bt HB.out hb)
  replace N0 := hide (N0.out.below hb)
  have hs1 := hb.size
  clear hb hs
  have g0 := FO.out.cell
  have g1 := FO.out.free
  have g2 := FR.out.cell
  have g3 := FR.out.free
  have g4 := FX.out.cell
  go_wp2
  have hv := HZV.out
  have hx0 := N0.out
  have hx1 := hzx
  refine bodyPost_ret (v := .agg #[.slice b0 U.tm.length m0, .slice b1 U.gr.length m1]) (by simp [results, Tryz.results7, go_sem, g2]) rfl ⟨hoL U b0 m0 b1 m1, rfl, ?_, b0, m0, b1, m1, v0.heap.size, x0.heap.size, v1.heap.size, x1.heap.size, rfl, by omega, ?_, by omega, ?_, by omega, ?_, ?_⟩
  · repeat (refine Below.setCell ?_ (by simp only []; omega) _)
    exact HB.out
  · simp [World.setCell]; omega
  · simp [World.setCell]
  · repeat (refine TmsOwn.setLow ?_ (by simp only []; omega) _)
    exact N0.out
  · repeat (refine GrsOwn.setLow ?_ (by simp only []; omega) _)
    exact N1.out
end Go.Proofs.YtdeammfdkaomlaaGreat
