
import Derived.Test.YthecacabcgaenaaWBs
import Derived.Deep.MidRow
namespace Go.Proofs.Ythecacabcgaenaa
open Go.RowKit Go.Deep

/-- a stewards' world -/
structure Sw where
  past : List Sb
  bk : Sb
def SwSmall (U : Sw) : Prop := SbsSmall U.past ∧ SbSmall U.bk
structure SwAt (lo : Nat) (w : World) (sv cv bv pv : Value) (U : Sw) : Prop where
  bk : SbAt lo w sv cv bv U.bk
  ls : SbsAt lo w pv U.past
theorem SwAt.below {lo : Nat} {w w' : World} {sv cv bv pv : Value} {U : Sw} (h : SwAt lo w sv cv bv pv U) (hb : Below w.heap.size w w') : SwAt lo w' sv cv bv pv U := ⟨h.bk.below hb, h.ls.below hb⟩
theorem SwAt.mono {lo lo' : Nat} {w : World} {sv cv bv pv : Value} {U : Sw} (h : SwAt lo w sv cv bv pv U) (hl : lo' ≤ lo) : SwAt lo' w sv cv bv pv U := ⟨h.bk.mono hl, h.ls.mono hl⟩
/-- its cells -/
def swL (U : Sw) (a0 : Option Addr) (k0 : Nat) (a1 : Option Addr) (k1 : Nat) (a2 : Option Addr) (k2 : Nat) (a3 : Option Addr) (k3 : Nat) : List Value := [.slice a3 U.past.length k3, .int .i64 U.bk.now, .slice a0 U.bk.ss.length k0, .slice a1 U.bk.cs.length k1, .slice a2 U.bk.bs.length k2]
/-- its cells, and what they lead to -/
def SwC (lo : Nat) (w : World) (cs : List Value) (U : Sw) : Prop :=
  ∃ a0 k0 a1 k1 a2 k2 a3 k3, cs = swL U a0 k0 a1 k1 a2 k2 a3 k3 ∧ SwAt lo w (.slice a0 U.bk.ss.length k0) (.slice a1 U.bk.cs.length k1) (.slice a2 U.bk.bs.length k2) (.slice a3 U.past.length k3) U
theorem SwC.below {lo : Nat} {w w' : World} {cs : List Value} {U : Sw} (h : SwC lo w cs U) (hb : Below w.heap.size w w') : SwC lo w' cs U := by
  obtain ⟨a0, k0, a1, k1, a2, k2, a3, k3, h1, h2⟩ := h
  exact ⟨a0, k0, a1, k1, a2, k2, a3, k3, h1, h2.below hb⟩
theorem SwC.mono {lo lo' : Nat} {w : World} {cs : List Value} {U : Sw} (h : SwC lo w cs U) (hl : lo' ≤ lo) : SwC lo' w cs U := by
  obtain ⟨a0, k0, a1, k1, a2, k2, a3, k3, h1, h2⟩ := h
  exact ⟨a0, k0, a1, k1, a2, k2, a3, k3, h1, h2.mono hl⟩

set_option maxHeartbeats 4000000 in
theorem szSw_c (lo : Nat) (cs : List Value) (U : Sw) (left : Int) (w : World) (h0 : 0 ≤ left) (h1 : left ≤ 1048576) (h : SwC lo w cs U) :
    Calls Try.prog 4 #[.agg cs.toArray, .int .i64 left] w
      fun e w' => ∃ r : Int, e = .returned (.int .i64 r) ∧ Below w.heap.size w w' ∧ -1 ≤ r ∧ r ≤ left ∧ (0 ≤ r → SwSmall U) := by
  obtain ⟨a0, k0, a1, k1, a2, k2, a3, k3, rfl, h⟩ := h
  show Calls Try.prog 4 #[.agg #[.slice a3 U.past.length k3, .int .i64 U.bk.now, .slice a0 U.bk.ss.length k0, .slice a1 U.bk.cs.length k1, .slice a2 U.bk.bs.length k2], .int .i64 left] w _
  have HL := hide h
  clear h
  go_enter Try.func4, Try.ntmps4
  go_wp2_with fail
  generalize hWa : w.alloc _ = Wa
  have HB0 : Hid (Below w.heap.size w Wa) := by rw [← hWa]; exact one_al _ _
  have FX : Hid (Box Wa w.heap.size #[.slice a3 U.past.length k3, .int .i64 U.bk.now, .slice a0 U.bk.ss.length k0, .slice a1 U.bk.cs.length k1, .slice a2 U.bk.bs.length k2]) := by rw [← hWa]; exact Box.new _ _ _ _ rfl
  clear hWa
  refine (szSbs_any lo _ U.past _ _ (by omega) (by omega) (HL.out.below HB0.out).ls).mono ?_
  rintro e w1 ⟨q1, rfl, hb1, p1, p2, p3⟩
  have Q1 := hide p3
  have HB1 : Hid (Below w.heap.size w w1) := HB0.out.trans (hb1.mono HB0.out.size)
  replace FX := hide (FX.out.on hb1)
  clear p3 hb1 HB0
  by_cases m1 : q1 < 0
  · go_wp2
    go_ret
    exact ⟨-1, rfl, HB1.out, by omega, by omega, fun h => by omega⟩
  have c17 := FX.out.cell
  go_wp2_with fail
  clear c17
  refine (szSb_any lo _ _ _ U.bk _ _ (by omega) (by omega) (HL.out.below HB1.out).bk).mono ?_
  rintro e w2 ⟨q2, rfl, hb2, p4, p5, p6⟩
  have Q2 := hide p6
  have HB2 : Hid (Below w.heap.size w w2) := HB1.out.trans (hb2.mono HB1.out.size)
  clear p6 hb2 HB1
  by_cases m2 : q2 < 0
  · go_wp2
    go_ret
    exact ⟨-1, rfl, HB2.out, by omega, by omega, fun h => by omega⟩
  go_wp2
  go_ret
  exact ⟨_, rfl, HB2.out, by omega, by omega, fun h => ⟨Q1.out (by omega), Q2.out (by omega)⟩⟩

set_option maxHeartbeats 4000000 in
theorem eqSw_c (lo lo' : Nat) (cs cs' : List Value) (U : Sw) (w : World) (h : SwC lo w cs U) (h' : SwC lo' w cs' U) :
    Calls Try.prog 8 #[.agg cs.toArray, .agg cs'.toArray] w fun e w' => e = .returned (.bool true) ∧ Below w.heap.size w w' := by
  obtain ⟨a0, k0, a1, k1, a2, k2, a3, k3, rfl, h⟩ := h
  obtain ⟨d0, e0, d1, e1, d2, e2, d3, e3, rfl, h'⟩ := h'
  show Calls Try.prog 8 #[.agg #[.slice a3 U.past.length k3, .int .i64 U.bk.now, .slice a0 U.bk.ss.length k0, .slice a1 U.bk.cs.length k1, .slice a2 U.bk.bs.length k2], .agg #[.slice d3 U.past.length e3, .int .i64 U.bk.now, .slice d0 U.bk.ss.length e0, .slice d1 U.bk.cs.length e1, .slice d2 U.bk.bs.length e2]] w _
  have HL := hide h
  have HR := hide h'
  clear h h'
  go_enter Try.func8, Try.ntmps8
  go_wp2_with fail
  generalize hWa : (World.alloc (w.alloc _) _) = Wa
  have HB0 : Hid (Below w.heap.size w Wa) := by rw [← hWa]; exact (one_al w _).alloc (by simp) _
  have HX0 : Hid (Box Wa w.heap.size #[.slice a3 U.past.length k3, .int .i64 U.bk.now, .slice a0 U.bk.ss.length k0, .slice a1 U.bk.cs.length k1, .slice a2 U.bk.bs.length k2]) := by rw [← hWa]; exact (Box.new _ _ _ _ rfl).on (one_al _ _)
  have HY0 : Hid (Box Wa (w.heap.size + 1) #[.slice d3 U.past.length e3, .int .i64 U.bk.now, .slice d0 U.bk.ss.length e0, .slice d1 U.bk.cs.length e1, .slice d2 U.bk.bs.length e2]) := by rw [← hWa]; exact Box.new _ _ _ _ (by simp)
  clear hWa
  refine (eqSbs_same lo lo' _ _ U.past _ (HL.out.below HB0.out).ls (HR.out.below HB0.out).ls).mono ?_
  rintro e w1 ⟨rfl, hb1⟩
  have HX1 := hide (HX0.out.on hb1)
  have HY1 := hide (HY0.out.on hb1)
  have HB1 : Hid (Below w.heap.size w w1) := HB0.out.trans (hb1.mono HB0.out.size)
  clear hb1 HB0 HX0 HY0
  have c1 := HX1.out.cell
  have e1 := HY1.out.cell
  go_wp2_with fail
  clear c1 e1
  refine (eqSb_same lo _ _ _ U.bk _ lo' _ _ _ (HL.out.below HB1.out).bk (HR.out.below HB1.out).bk).mono ?_
  rintro e w2 ⟨rfl, hb2⟩
  have HB2 : Hid (Below w.heap.size w w2) := HB1.out.trans (hb2.mono HB1.out.size)
  clear hb2 HB1 HX1 HY1
  go_wp2
  go_ret
  exact ⟨rfl, HB2.out⟩

set_option maxRecDepth 20000 in
set_option maxHeartbeats 8000000 in
theorem toSw_c (lo : Nat) (cs : List Value) (U : Sw) (w : World) (h : SwC lo w cs U) (hn : SwSmall U) :
    Calls Try.prog 6 #[.agg cs.toArray] w
      fun e w' => ∃ cs', e = .returned (.agg cs'.toArray) ∧ Below w.heap.size w w' ∧ SwC w.heap.size w' cs' U := by
  obtain ⟨a0, k0, a1, k1, a2, k2, a3, k3, rfl, h⟩ := h
  show Calls Try.prog 6 #[.agg #[.slice a3 U.past.length k3, .int .i64 U.bk.now, .slice a0 U.bk.ss.length k0, .slice a1 U.bk.cs.length k1, .slice a2 U.bk.bs.length k2]] w _
  have HL := hide h
  obtain ⟨hn0, hn1⟩ := hn
  clear h
  go_enter Try.func6, Try.ntmps6
  go_wp2_with fail
  obtain ⟨wz, hwz, HX0, HR0, HO0, HB0⟩ : ∃ wz, wz = ((w.alloc (.cells #[.slice a3 U.past.length k3, .int .i64 U.bk.now, .slice a0 U.bk.ss.length k0, .slice a1 U.bk.cs.length k1, .slice a2 U.bk.bs.length k2] 29)).alloc (.cells #[.slice none 0 0, .int .i64 0, .slice none 0 0, .slice none 0 0, .slice none 0 0] 39)).alloc (.cells #[.slice none 0 0, .int .i64 0, .slice none 0 0, .slice none 0 0, .slice none 0 0] 39) ∧
      Hid (Box wz w.heap.size #[.slice a3 U.past.length k3, .int .i64 U.bk.now, .slice a0 U.bk.ss.length k0, .slice a1 U.bk.cs.length k1, .slice a2 U.bk.bs.length k2]) ∧ Hid (Box wz (w.heap.size + 1) #[.slice none 0 0, .int .i64 0, .slice none 0 0, .slice none 0 0, .slice none 0 0]) ∧ Hid (Box wz (w.heap.size + 1 + 1) #[.slice none 0 0, .int .i64 0, .slice none 0 0, .slice none 0 0, .slice none 0 0]) ∧ Hid (Below w.heap.size w wz) :=
    ⟨_, rfl, ((Box.new w _ _ _ rfl).on (one_al _ _)).on (one_al _ _), (Box.new _ _ _ _ (by simp)).on (one_al _ _), Box.new _ _ _ _ (by simp), ((one_al _ _).trans ((one_al _ _).mono (by simp))).trans ((one_al _ _).mono (by simp; omega))⟩
  rw [← hwz]
  clear hwz
  generalize wz = v0 at *
  have hz0 : w.heap.size + 3 ≤ v0.heap.size := by have := HO0.out.lt; omega
  refine (toSbs_any lo _ U.past _ (HL.out.below HB0.out).ls hn0).mono ?_
  rintro e w0 ⟨u3, rfl, hb0, hs0⟩
  obtain ⟨b3, m3, rfl⟩ := hs0.form
  have GX := hide (HX0.out.on hb0)
  have GR := hide (HR0.out.on hb0)
  have GO := hide (HO0.out.on hb0)
  have GB := hide (HB0.out.trans (hb0.mono HB0.out.size))
  have GN := hide (hs0.mono hz0)
  clear hb0 hs0 HX0 HR0 HO0 HB0 hz0
  have o0 := GO.out.cell
  have f0 := GO.out.free
  have x1 := GX.out.cell
  go_wp2_with fail
  clear o0 f0 x1
  obtain ⟨v1, hwq, HX1, HR1, HO1, HB1, HS0⟩ : ∃ wq, wq = w0.setCell ⟨w.heap.size + 1 + 1, 0, none⟩ (.slice b3 U.past.length m3) ∧
      Hid (Box wq w.heap.size #[.slice a3 U.past.length k3, .int .i64 U.bk.now, .slice a0 U.bk.ss.length k0, .slice a1 U.bk.cs.length k1, .slice a2 U.bk.bs.length k2]) ∧ Hid (Box wq (w.heap.size + 1) #[.slice none 0 0, .int .i64 0, .slice none 0 0, .slice none 0 0, .slice none 0 0]) ∧ Hid (Box wq (w.heap.size + 1 + 1) #[.slice b3 U.past.length m3, .int .i64 0, .slice none 0 0, .slice none 0 0, .slice none 0 0]) ∧ Hid (Below w.heap.size w wq) ∧ Hid (SbsAt (w.heap.size + 3) wq (.slice b3 U.past.length m3) U.past) :=
    ⟨_, rfl, GX.out.setFar (by simp only []; omega) _, GR.out.setFar (by simp only []; omega) _, GO.out.set (k := 0) (.slice b3 U.past.length m3) (by simp), GB.out.setCell (by simp only []; omega) _, GN.out.set (by simp only []; omega) _⟩
  rw [← hwq]
  clear hwq GX GR GO GB GN
  have hz1 : w.heap.size + 3 ≤ v1.heap.size := by have := HO1.out.lt; omega
  refine (toSb_any lo _ _ _ U.bk _ (HL.out.below HB1.out).bk hn1).mono ?_
  rintro e w1 ⟨b0, m0, b1, m1, b2, m2, rfl, hb1, hs1⟩
  have GX := hide (HX1.out.on hb1)
  have GR := hide (HR1.out.on hb1)
  have GO := hide (HO1.out.on hb1)
  have GB := hide (HB1.out.trans (hb1.mono HB1.out.size))
  have GN := hide (hs1.mono hz1)
  have G0 := hide (HS0.out.below hb1)
  clear hb1 hs1 HX1 HR1 HO1 HB1 hz1 HS0
  have o0 := GO.out.cell
  have f0 := GO.out.free
  have r0 := GR.out.cell
  have g0 := GR.out.free
  go_wp2
  refine bodyPost_ret (v := .agg #[.slice b3 U.past.length m3, .int .i64 U.bk.now, .slice b0 U.bk.ss.length m0, .slice b1 U.bk.cs.length m1, .slice b2 U.bk.bs.length m2]) (by simp [results, Try.results6, go_sem, r0]) rfl ⟨swL U b0 m0 b1 m1 b2 m2 b3 m3, rfl, ?_, b0, m0, b1, m1, b2, m2, b3, m3, rfl, ?_, ?_⟩
  · repeat (refine Below.setCell ?_ (by simp only []; omega) _)
    exact GB.out
  · refine SbAt.mono (lo := w.heap.size + 3) ?_ (by omega)
    repeat (refine SbAt.set ?_ (by simp only []; omega) _)
    exact GN.out
  · refine SbsAt.mono (lo := w.heap.size + 3) ?_ (by omega)
    repeat (refine SbsAt.set ?_ (by simp only []; omega) _)
    exact G0.out
end Go.Proofs.Ythecacabcgaenaa
