import Derived.Test.YtoklnkojacdciaaG13
import Derived.Test.YtoklnkojacdciaaG14
import Derived.Deep.MidRow
namespace Go.Proofs.Ytoklnkojacdciaa
open Go.RowKit Go.Deep

structure Wd where
  rs : List Rr
  fl : List Rm
  fx : List Rx
def WdSmall (U : Wd) : Prop := RrsSmall U.rs ∧ RmsSmall U.fl ∧ RxsSmall U.fx
structure WdAt (lo : Nat) (w : World) (v0 v1 v2 : Value) (U : Wd) : Prop where
  l0 : RrsAt lo w v0 U.rs
  l1 : RmsAt lo w v1 U.fl
  l2 : RxsAt lo w v2 U.fx
theorem WdAt.below {lo : Nat} {w w' : World} {v0 v1 v2 : Value} {U : Wd} (h : WdAt lo w v0 v1 v2 U) (hb : Below w.heap.size w w') : WdAt lo w' v0 v1 v2 U := ⟨h.l0.below hb, h.l1.below hb, h.l2.below hb⟩
theorem WdAt.mono {lo lo' : Nat} {w : World} {v0 v1 v2 : Value} {U : Wd} (h : WdAt lo w v0 v1 v2 U) (hl : lo' ≤ lo) : WdAt lo' w v0 v1 v2 U := ⟨h.l0.mono hl, h.l1.mono hl, h.l2.mono hl⟩
theorem WdAt.set {lo : Nat} {w : World} {v0 v1 v2 : Value} {U : Wd} (h : WdAt lo w v0 v1 v2 U) {p : Addr} (hp : p.block < lo) (u : Value) : WdAt lo (w.setCell p u) v0 v1 v2 U := ⟨h.l0.set hp u, h.l1.set hp u, h.l2.set hp u⟩
/-- its cells -/
def wdL (U : Wd) (a0 : Option Addr) (k0 : Nat) (a1 : Option Addr) (k1 : Nat) (a2 : Option Addr) (k2 : Nat) : List Value := [.slice a0 U.rs.length k0, .slice a1 U.fl.length k1, .slice a2 U.fx.length k2]
/-- its cells, and what they lead to -/
def WdC (lo : Nat) (w : World) (cs : List Value) (U : Wd) : Prop := ∃ a0 k0 a1 k1 a2 k2, cs = wdL U a0 k0 a1 k1 a2 k2 ∧ WdAt lo w (.slice a0 U.rs.length k0) (.slice a1 U.fl.length k1) (.slice a2 U.fx.length k2) U
theorem WdC.below {lo : Nat} {w w' : World} {cs : List Value} {U : Wd} (h : WdC lo w cs U) (hb : Below w.heap.size w w') : WdC lo w' cs U := by
  obtain ⟨a0, k0, a1, k1, a2, k2, h1, h2⟩ := h
  exact ⟨a0, k0, a1, k1, a2, k2, h1, h2.below hb⟩
theorem WdC.mono {lo lo' : Nat} {w : World} {cs : List Value} {U : Wd} (h : WdC lo w cs U) (hl : lo' ≤ lo) : WdC lo' w cs U := by
  obtain ⟨a0, k0, a1, k1, a2, k2, h1, h2⟩ := h
  exact ⟨a0, k0, a1, k1, a2, k2, h1, h2.mono hl⟩
theorem WdC.set {lo : Nat} {w : World} {cs : List Value} {U : Wd} (h : WdC lo w cs U) {p : Addr} (hp : p.block < lo) (u : Value) : WdC lo (w.setCell p u) cs U := by
  obtain ⟨a0, k0, a1, k1, a2, k2, h1, h2⟩ := h
  exact ⟨a0, k0, a1, k1, a2, k2, h1, h2.set hp u⟩
theorem WdC.len {lo : Nat} {w : World} {cs : List Value} {U : Wd} (h : WdC lo w cs U) : cs.length = 3 := by
  obtain ⟨a0, k0, a1, k1, a2, k2, h1, h2⟩ := h
  rw [h1]; rfl
theorem WdC.one {lo : Nat} {w : World} {cs : List Value} {U : Wd} (h : WdC lo w cs U) : Array.all cs.toArray (·.oneCell') = true := by
  obtain ⟨a0, k0, a1, k1, a2, k2, h1, h2⟩ := h
  rw [h1]
  unfold wdL
  simp [Value.oneCell']

set_option maxHeartbeats 8000000 in
theorem szWd_c (lo : Nat) (cs : List Value) (U : Wd) (left : Int) (w : World) (h0 : 0 ≤ left) (h1 : left ≤ 1048576) (h : WdC lo w cs U) :
    Calls Try.prog 12 #[.agg cs.toArray, .int .i64 left] w
      fun e w' => ∃ r : Int, e = .returned (.int .i64 r) ∧ Below w.heap.size w w' ∧ -1 ≤ r ∧ r ≤ left ∧ (0 ≤ r → WdSmall U) := by
  obtain ⟨a0, k0, a1, k1, a2, k2, rfl, h⟩ := h
  show Calls Try.prog 12 #[.agg #[.slice a0 U.rs.length k0, .slice a1 U.fl.length k1, .slice a2 U.fx.length k2], .int .i64 left] w _
  have HL := hide h
  clear h
  go_enter Try.func12, Try.ntmps12
  go_wp2_with fail
  generalize hWa : w.alloc _ = Wa
  have HB : Hid (Below w.heap.size w Wa) := by unfold Hid; rw [← hWa]; exact one_al _ _
  have FX : Hid (Box Wa w.heap.size #[.slice a0 U.rs.length k0, .slice a1 U.fl.length k1, .slice a2 U.fx.length k2]) := by unfold Hid; rw [← hWa]; exact Box.new _ _ _ _ rfl
  clear hWa
  refine (szRrs_any lo _ U.rs _ _ (by omega) (by omega) ((HL.out.below HB.out).l0)).mono ?_
  rintro e w0 ⟨q0, rfl, hb, p0a, p0b, p0c⟩
  have Q0 := hide p0c
  replace HB := hide (bt HB.out hb)
  replace FX := hide (FX.out.on hb)
  clear hb p0c
  by_cases m0 : q0 < 0
  · go_wp2
    go_ret
    exact ⟨-1, rfl, HB.out, by omega, by omega, fun h => by omega⟩
  have g0 := FX.out.cell
  go_wp2_with fail
  clear g0
  refine (szRms_any lo _ U.fl _ _ (by omega) (by omega) ((HL.out.below HB.out).l1)).mono ?_
  rintro e w1 ⟨q1, rfl, hb, p1a, p1b, p1c⟩
  have Q1 := hide p1c
  replace HB := hide (bt HB.out hb)
  replace FX := hide (FX.out.on hb)
  clear hb p1c
  by_cases m1 : q1 < 0
  · go_wp2
    go_ret
    exact ⟨-1, rfl, HB.out, by omega, by omega, fun h => by omega⟩
  have g0 := FX.out.cell
  go_wp2_with fail
  clear g0
  refine (szRxs_any lo _ U.fx _ _ (by omega) (by omega) ((HL.out.below HB.out).l2)).mono ?_
  rintro e w2 ⟨q2, rfl, hb, p2a, p2b, p2c⟩
  have Q2 := hide p2c
  replace HB := hide (bt HB.out hb)
  replace FX := hide (FX.out.on hb)
  clear hb p2c
  by_cases m2 : q2 < 0
  · go_wp2
    go_ret
    exact ⟨-1, rfl, HB.out, by omega, by omega, fun h => by omega⟩
  go_wp2
  go_ret
  exact ⟨_, rfl, HB.out, by omega, by omega, fun h => ⟨Q0.out (by omega), Q1.out (by omega), Q2.out (by omega)⟩⟩

set_option maxHeartbeats 8000000 in
theorem eqWd_c (lo lo' : Nat) (cs cs' : List Value) (U : Wd) (w : World) (h : WdC lo w cs U) (h' : WdC lo' w cs' U) :
    Calls Try.prog 9 #[.agg cs.toArray, .agg cs'.toArray] w fun e w' => e = .returned (.bool true) ∧ Below w.heap.size w w' := by
  obtain ⟨a0, k0, a1, k1, a2, k2, rfl, h⟩ := h
  obtain ⟨d0, e0, d1, e1, d2, e2, rfl, h'⟩ := h'
  show Calls Try.prog 9 #[.agg #[.slice a0 U.rs.length k0, .slice a1 U.fl.length k1, .slice a2 U.fx.length k2], .agg #[.slice d0 U.rs.length e0, .slice d1 U.fl.length e1, .slice d2 U.fx.length e2]] w _
  have HL := hide h
  have HR := hide h'
  clear h h'
  go_enter Try.func9, Try.ntmps9
  go_wp2_with fail
  generalize hWa : (World.alloc (w.alloc _) _) = Wa
  have HB : Hid (Below w.heap.size w Wa) := by unfold Hid; rw [← hWa]; exact (one_al w _).alloc (by simp) _
  have FX : Hid (Box Wa w.heap.size #[.slice a0 U.rs.length k0, .slice a1 U.fl.length k1, .slice a2 U.fx.length k2]) := by unfold Hid; rw [← hWa]; exact (Box.new _ _ _ _ rfl).on (one_al _ _)
  have FY : Hid (Box Wa (w.heap.size + 1) #[.slice d0 U.rs.length e0, .slice d1 U.fl.length e1, .slice d2 U.fx.length e2]) := by unfold Hid; rw [← hWa]; exact Box.new _ _ _ _ (by simp)
  clear hWa
  refine (eqRrs_same lo lo' _ _ U.rs _ ((HL.out.below HB.out).l0) ((HR.out.below HB.out).l0)).mono ?_
  rintro e w0 ⟨rfl, hb⟩
  replace HB := hide (bt HB.out hb)
  replace FX := hide (FX.out.on hb)
  replace FY := hide (FY.out.on hb)
  clear hb
  have g0 := FX.out.cell
  have g1 := FY.out.cell
  go_wp2_with fail
  clear g0 g1
  refine (eqRms_same lo lo' _ _ U.fl _ ((HL.out.below HB.out).l1) ((HR.out.below HB.out).l1)).mono ?_
  rintro e w1 ⟨rfl, hb⟩
  replace HB := hide (bt HB.out hb)
  replace FX := hide (FX.out.on hb)
  replace FY := hide (FY.out.on hb)
  clear hb
  have g0 := FX.out.cell
  have g1 := FY.out.cell
  go_wp2_with fail
  clear g0 g1
  refine (eqRxs_same lo lo' _ _ U.fx _ ((HL.out.below HB.out).l2) ((HR.out.below HB.out).l2)).mono ?_
  rintro e w2 ⟨rfl, hb⟩
  replace HB := hide (bt HB.out hb)
  replace FX := hide (FX.out.on hb)
  replace FY := hide (FY.out.on hb)
  clear hb
  have g0 := FX.out.cell
  have g1 := FY.out.cell
  go_wp2
  go_ret
  exact ⟨rfl, HB.out⟩

set_option maxRecDepth 20000 in
set_option maxHeartbeats 16000000 in
theorem toWd_c (lo : Nat) (cs : List Value) (U : Wd) (w : World) (h : WdC lo w cs U) (hn : WdSmall U) :
    Calls Try.prog 14 #[.agg cs.toArray] w
      fun e w' => ∃ cs', e = .returned (.agg cs'.toArray) ∧ Below w.heap.size w w' ∧ WdC w.heap.size w' cs' U := by
  obtain ⟨a0, k0, a1, k1, a2, k2, rfl, h⟩ := h
  show Calls Try.prog 14 #[.agg #[.slice a0 U.rs.length k0, .slice a1 U.fl.length k1, .slice a2 U.fx.length k2]] w _
  have HL := hide h
  obtain ⟨hn0, hn1, hn2⟩ := hn
  clear h
  go_enter Try.func14, Try.ntmps14
  go_wp2_with fail
  obtain ⟨wz, hwz, FX, FR, FO, HB⟩ : ∃ wz, wz = ((w.alloc (.cells #[.slice a0 U.rs.length k0, .slice a1 U.fl.length k1, .slice a2 U.fx.length k2] 35)).alloc (.cells #[.slice none 0 0, .slice none 0 0, .slice none 0 0] 26)).alloc (.cells #[.slice none 0 0, .slice none 0 0, .slice none 0 0] 26) ∧
      Hid (Box wz w.heap.size #[.slice a0 U.rs.length k0, .slice a1 U.fl.length k1, .slice a2 U.fx.length k2]) ∧ Hid (Box wz (w.heap.size + 1) #[.slice none 0 0, .slice none 0 0, .slice none 0 0]) ∧ Hid (Box wz (w.heap.size + 1 + 1) #[.slice none 0 0, .slice none 0 0, .slice none 0 0]) ∧ Hid (Below w.heap.size w wz) :=
    ⟨_, rfl, ((Box.new w _ _ _ rfl).on (one_al _ _)).on (one_al _ _), (Box.new _ _ _ _ (by simp)).on (one_al _ _), Box.new _ _ _ _ (by simp), ((one_al _ _).trans ((one_al _ _).mono (by simp))).trans ((one_al _ _).mono (by simp; omega))⟩
  rw [← hwz]
  clear hwz
  generalize wz = v0 at *
  have hz0 : w.heap.size + 3 ≤ v0.heap.size := by have := FO.out.lt; omega
  refine (toRrs_any lo _ U.rs _ ((HL.out.below HB.out).l0) hn0).mono ?_
  rintro e x0 ⟨u, rfl, hb, hs⟩
  obtain ⟨b0, m0, rfl⟩ := hs.form
  have N0 := hide (hs.mono hz0)
  replace FX := hide (FX.out.on hb)
  replace FR := hide (FR.out.on hb)
  replace FO := hide (FO.out.on hb)
  replace HB := hide (bt HB.out hb)
  clear hb hs hz0
  have g0 := FO.out.cell
  have g1 := FO.out.free
  have g2 := FX.out.cell
  go_wp2_with fail
  clear g0 g1 g2
  obtain ⟨v1, hwq, GX, GR, GO, GB, GN0⟩ : ∃ wq, wq = (x0.setCell ⟨w.heap.size + 1 + 1, 0, none⟩ (.slice b0 U.rs.length m0)) ∧ Hid (Box wq w.heap.size #[.slice a0 U.rs.length k0, .slice a1 U.fl.length k1, .slice a2 U.fx.length k2]) ∧ Hid (Box wq (w.heap.size + 1) #[.slice none 0 0, .slice none 0 0, .slice none 0 0]) ∧ Hid (Box wq (w.heap.size + 1 + 1) #[.slice b0 U.rs.length m0, .slice none 0 0, .slice none 0 0]) ∧ Hid (Below w.heap.size w wq) ∧ Hid (RrsAt (w.heap.size + 3) wq (.slice b0 U.rs.length m0) U.rs) :=
    ⟨_, rfl, (FX.out.setFar (by simp only []; omega) _), (FR.out.setFar (by simp only []; omega) _), (FO.out.set (k := 0) (.slice b0 U.rs.length m0) (by simp)), (HB.out.setCell (by simp only []; omega) _), (N0.out.set (by simp only []; omega) _)⟩
  rw [← hwq]
  clear hwq FX FR FO HB N0
  have FX := GX
  have FR := GR
  have FO := GO
  have HB := GB
  have N0 := GN0
  clear GX GR GO GB GN0
  have hz1 : w.heap.size + 3 ≤ v1.heap.size := by have := FO.out.lt; omega
  refine (toRms_any lo _ U.fl _ ((HL.out.below HB.out).l1) hn1).mono ?_
  rintro e x1 ⟨u, rfl, hb, hs⟩
  obtain ⟨b1, m1, rfl⟩ := hs.form
  have N1 := hide (hs.mono hz1)
  replace FX := hide (FX.out.on hb)
  replace FR := hide (FR.out.on hb)
  replace FO := hide (FO.out.on hb)
  replace HB := hide (bt HB.out hb)
  replace N0 := hide (N0.out.below hb)
  clear hb hs hz1
  have g0 := FO.out.cell
  have g1 := FO.out.free
  have g2 := FX.out.cell
  go_wp2_with fail
  clear g0 g1 g2
  obtain ⟨v2, hwq, GX, GR, GO, GB, GN0, GN1⟩ : ∃ wq, wq = (x1.setCell ⟨w.heap.size + 1 + 1, 1, none⟩ (.slice b1 U.fl.length m1)) ∧ Hid (Box wq w.heap.size #[.slice a0 U.rs.length k0, .slice a1 U.fl.length k1, .slice a2 U.fx.length k2]) ∧ Hid (Box wq (w.heap.size + 1) #[.slice none 0 0, .slice none 0 0, .slice none 0 0]) ∧ Hid (Box wq (w.heap.size + 1 + 1) #[.slice b0 U.rs.length m0, .slice b1 U.fl.length m1, .slice none 0 0]) ∧ Hid (Below w.heap.size w wq) ∧ Hid (RrsAt (w.heap.size + 3) wq (.slice b0 U.rs.length m0) U.rs) ∧ Hid (RmsAt (w.heap.size + 3) wq (.slice b1 U.fl.length m1) U.fl) :=
    ⟨_, rfl, (FX.out.setFar (by simp only []; omega) _), (FR.out.setFar (by simp only []; omega) _), (FO.out.set (k := 1) (.slice b1 U.fl.length m1) (by simp)), (HB.out.setCell (by simp only []; omega) _), (N0.out.set (by simp only []; omega) _), (N1.out.set (by simp only []; omega) _)⟩
  rw [← hwq]
  clear hwq FX FR FO HB N0 N1
  have FX := GX
  have FR := GR
  have FO := GO
  have HB := GB
  have N0 := GN0
  have N1 := GN1
  clear GX GR GO GB GN0 GN1
  have hz2 : w.heap.size + 3 ≤ v2.heap.size := by have := FO.out.lt; omega
  refine (toRxs_any lo _ U.fx _ ((HL.out.below HB.out).l2) hn2).mono ?_
  rintro e x2 ⟨u, rfl, hb, hs⟩
  obtain ⟨b2, m2, rfl⟩ := hs.form
  have N2 := hide (hs.mono hz2)
  replace FX := hide (FX.out.on hb)
  replace FR := hide (FR.out.on hb)
  replace FO := hide (FO.out.on hb)
  replace HB := hide (bt HB.out hb)
  replace N0 := hide (N0.out.below hb)
  replace N1 := hide (N1.out.below hb)
  clear hb hs hz2
  have g0 := FO.out.cell
  have g1 := FO.out.free
  have g2 := FR.out.cell
  have g3 := FR.out.free
  have g4 := FX.out.cell
  go_wp2
  refine bodyPost_ret (v := .agg #[.slice b0 U.rs.length m0, .slice b1 U.fl.length m1, .slice b2 U.fx.length m2]) (by simp [results, Try.results14, go_sem, g2]) rfl ⟨wdL U b0 m0 b1 m1 b2 m2, rfl, ?_, b0, m0, b1, m1, b2, m2, rfl, ⟨?_, ?_, ?_⟩⟩
  · repeat (refine Below.setCell ?_ (by simp only []; omega) _)
    exact HB.out
  · refine RrsAt.mono (lo := w.heap.size + 3) ?_ (by omega)
    repeat (refine RrsAt.set ?_ (by simp only []; omega) _)
    exact N0.out
  · refine RmsAt.mono (lo := w.heap.size + 3) ?_ (by omega)
    repeat (refine RmsAt.set ?_ (by simp only []; omega) _)
    exact N1.out
  · refine RxsAt.mono (lo := w.heap.size + 3) ?_ (by omega)
    repeat (refine RxsAt.set ?_ (by simp only []; omega) _)
    exact N2.out
end Go.Proofs.Ytoklnkojacdciaa
