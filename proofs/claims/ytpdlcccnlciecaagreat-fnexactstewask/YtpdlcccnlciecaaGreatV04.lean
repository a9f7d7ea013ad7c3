import Derived.Test.YtpdlcccnlciecaaGreatV01
import Derived.Test.YtpdlcccnlciecaaGreatV02
import Derived.Test.YtpdlcccnlciecaaGreatV03
namespace Go.Proofs.YtpdlcccnlciecaaGreat
open Go.RowKit Go.Deep

/-- a stewards' book -/
structure Sb where
  now : Int
  ss : List Sv
  cs : List Cp
  bs : List Be
/-- a book in memory, all of it above lo -/
structure SbAt (lo : Nat) (w : World) (sv cv bv : Value) (B : Sb) : Prop where
  svs : SvsAt lo w sv B.ss
  cps : CpsAt lo w cv B.cs
  bes : BesAt lo w bv B.bs
theorem SbAt.below {lo : Nat} {w w' : World} {sv cv bv : Value} {B : Sb} (h : SbAt lo w sv cv bv B) (hb : Below w.heap.size w w') : SbAt lo w' sv cv bv B :=
  ⟨h.svs.below hb, h.cps.below hb, h.bes.below hb⟩
theorem SbAt.mono {lo lo' : Nat} {w : World} {sv cv bv : Value} {B : Sb} (h : SbAt lo w sv cv bv B) (hl : lo' ≤ lo) : SbAt lo' w sv cv bv B :=
  ⟨h.svs.mono hl, h.cps.mono hl, h.bes.mono hl⟩
theorem SbAt.set {lo : Nat} {w : World} {sv cv bv : Value} {B : Sb} (h : SbAt lo w sv cv bv B) {p : Addr} (hp : p.block < lo) (u : Value) : SbAt lo (w.setCell p u) sv cv bv B :=
  ⟨h.svs.set hp u, h.cps.set hp u, h.bes.set hp u⟩
def SbSmall (B : Sb) : Prop := SvsSmall B.ss ∧ CpsSmall B.cs ∧ BesSmall B.bs

section
variable (lo : Nat) (sv cv bv : Value) (B : Sb) (w : World)

set_option maxHeartbeats 2000000 in
theorem szSb_any (left : Int) (h0 : 0 ≤ left) (h1 : left ≤ 1048576) (h : SbAt lo w sv cv bv B) :
    Calls Tryz.prog 4 #[.agg #[.int .i64 B.now, sv, cv, bv], .int .i64 left] w
      fun e w' => ∃ r : Int, e = .returned (.int .i64 r) ∧ Below w.heap.size w w' ∧ -1 ≤ r ∧ r ≤ left ∧ (0 ≤ r → SbSmall B) := by
  have HL := hide h
  obtain ⟨a0, k0, rfl⟩ := h.svs.form
  obtain ⟨a1, k1, rfl⟩ := h.cps.form
  obtain ⟨a2, k2, rfl⟩ := h.bes.form
  clear h
  go_enter Tryz.func4, Tryz.ntmps4
  go_wp2_with fail
  generalize hWa : w.alloc _ = Wa
  have HB0 : Hid (Below w.heap.size w Wa) := by rw [← hWa]; exact one_al w _
  have HX0 : Hid (Box Wa w.heap.size #[.int .i64 B.now, .slice a0 B.ss.length k0, .slice a1 B.cs.length k1, .slice a2 B.bs.length k2]) := by rw [← hWa]; exact Box.new _ _ _ _ rfl
  clear hWa
  refine (szSvs_any lo _ B.ss _ _ (by omega) (by omega) (HL.out.below HB0.out).svs).mono ?_
  rintro e w1 ⟨r1, rfl, hb1, p1, q1, s1⟩
  have HX1 := hide (HX0.out.on hb1)
  have HB1 : Hid (Below w.heap.size w w1) := HB0.out.trans (hb1.mono HB0.out.size)
  have Q1 := hide s1
  clear hb1 s1 HB0 HX0
  by_cases hn1 : r1 < 0
  · go_wp2
    go_ret
    exact ⟨-1, rfl, HB1.out, by omega, by omega, fun h => by omega⟩
  have c1 := HX1.out.cell 2
  simp at c1
  go_wp2_with fail
  clear c1
  refine (szCps_any lo _ B.cs _ _ (by omega) (by omega) (HL.out.below HB1.out).cps).mono ?_
  rintro e w2 ⟨r2, rfl, hb2, p2, q2, s2⟩
  have HX2 := hide (HX1.out.on hb2)
  have HB2 : Hid (Below w.heap.size w w2) := HB1.out.trans (hb2.mono HB1.out.size)
  have Q2 := hide s2
  clear hb2 s2 HB1 HX1
  by_cases hn2 : r2 < 0
  · go_wp2
    go_ret
    exact ⟨-1, rfl, HB2.out, by omega, by omega, fun h => by omega⟩
  have c2 := HX2.out.cell 3
  simp at c2
  go_wp2_with fail
  clear c2
  refine (szBes_any lo _ B.bs _ _ (by omega) (by omega) (HL.out.below HB2.out).bes).mono ?_
  rintro e w3 ⟨r3, rfl, hb3, p3, q3, s3⟩
  have HX3 := hide (HX2.out.on hb3)
  have HB3 : Hid (Below w.heap.size w w3) := HB2.out.trans (hb3.mono HB2.out.size)
  have Q3 := hide s3
  clear hb3 s3 HB2 HX2
  by_cases hn3 : r3 < 0
  · go_wp2
    go_ret
    exact ⟨-1, rfl, HB3.out, by omega, by omega, fun h => by omega⟩
  go_wp2
  go_ret
  exact ⟨_, rfl, HB3.out, by omega, by omega, fun h => ⟨Q1.out (by omega), Q2.out (by omega), Q3.out (by omega)⟩⟩

set_option maxHeartbeats 2000000 in
theorem eqSb_same (lo' : Nat) (sv' cv' bv' : Value) (h : SbAt lo w sv cv bv B) (h' : SbAt lo' w sv' cv' bv' B) :
    Calls Tryz.prog 9 #[.agg #[.int .i64 B.now, sv, cv, bv], .agg #[.int .i64 B.now, sv', cv', bv']] w fun e w' => e = .returned (.bool true) ∧ Below w.heap.size w w' := by
  have HL := hide h
  have HR := hide h'
  obtain ⟨a0, k0, rfl⟩ := h.svs.form
  obtain ⟨a1, k1, rfl⟩ := h.cps.form
  obtain ⟨a2, k2, rfl⟩ := h.bes.form
  obtain ⟨d0, md0, rfl⟩ := h'.svs.form
  obtain ⟨d1, md1, rfl⟩ := h'.cps.form
  obtain ⟨d2, md2, rfl⟩ := h'.bes.form
  clear h h'
  go_enter Tryz.func9, Tryz.ntmps9
  go_wp2_with fail
  generalize hWa : (World.alloc (w.alloc _) _) = Wa
  have HB0 : Hid (Below w.heap.size w Wa) := by rw [← hWa]; exact (one_al w _).alloc (by simp) _
  have HX0 : Hid (Box Wa w.heap.size #[.int .i64 B.now, .slice a0 B.ss.length k0, .slice a1 B.cs.length k1, .slice a2 B.bs.length k2]) := by rw [← hWa]; exact (Box.new _ _ _ _ rfl).on (one_al _ _)
  have HY0 : Hid (Box Wa (w.heap.size + 1) #[.int .i64 B.now, .slice d0 B.ss.length md0, .slice d1 B.cs.length md1, .slice d2 B.bs.length md2]) := by rw [← hWa]; exact Box.new _ _ _ _ (by simp)
  clear hWa
  refine (eqSvs_same lo lo' _ _ B.ss _ (HL.out.below HB0.out).svs (HR.out.below HB0.out).svs).mono ?_
  rintro e w1 ⟨rfl, hb1⟩
  have HX1 := hide (HX0.out.on hb1)
  have HY1 := hide (HY0.out.on hb1)
  have HB1 : Hid (Below w.heap.size w w1) := HB0.out.trans (hb1.mono HB0.out.size)
  clear hb1 HB0 HX0 HY0
  have c1 := HX1.out.cell 2
  have e1 := HY1.out.cell 2
  simp at c1 e1
  go_wp2_with fail
  clear c1 e1
  refine (eqCps_same lo lo' _ _ B.cs _ (HL.out.below HB1.out).cps (HR.out.below HB1.out).cps).mono ?_
  rintro e w2 ⟨rfl, hb2⟩
  have HX2 := hide (HX1.out.on hb2)
  have HY2 := hide (HY1.out.on hb2)
  have HB2 : Hid (Below w.heap.size w w2) := HB1.out.trans (hb2.mono HB1.out.size)
  clear hb2 HB1 HX1 HY1
  have c2 := HX2.out.cell 3
  have e2 := HY2.out.cell 3
  simp at c2 e2
  go_wp2_with fail
  clear c2 e2
  refine (eqBes_same lo lo' _ _ B.bs _ (HL.out.below HB2.out).bes (HR.out.below HB2.out).bes).mono ?_
  rintro e w3 ⟨rfl, hb3⟩
  have HX3 := hide (HX2.out.on hb3)
  have HY3 := hide (HY2.out.on hb3)
  have HB3 : Hid (Below w.heap.size w w3) := HB2.out.trans (hb3.mono HB2.out.size)
  clear hb3 HB2 HX2 HY2
  go_wp2
  go_ret
  exact ⟨rfl, HB3.out⟩

set_option maxHeartbeats 4000000 in
theorem toSb_any (h : SbAt lo w sv cv bv B) (hn : SbSmall B) :
    Calls Tryz.prog 6 #[.agg #[.int .i64 B.now, sv, cv, bv]] w
      fun e w' => ∃ b0 m0 b1 m1 b2 m2, e = .returned (.agg #[.int .i64 B.now, .slice b0 B.ss.length m0, .slice b1 B.cs.length m1, .slice b2 B.bs.length m2]) ∧ Below w.heap.size w w' ∧ SbAt w.heap.size w' (.slice b0 B.ss.length m0) (.slice b1 B.cs.length m1) (.slice b2 B.bs.length m2) B := by
  have HL := hide h
  obtain ⟨a0, k0, rfl⟩ := h.svs.form
  obtain ⟨a1, k1, rfl⟩ := h.cps.form
  obtain ⟨a2, k2, rfl⟩ := h.bes.form
  obtain ⟨hn0, hn1, hn2⟩ := hn
  clear h
  go_enter Tryz.func6, Tryz.ntmps6
  go_wp2_with fail
  obtain ⟨wz, hwz, HX0, HR0, HO0, HB0⟩ : ∃ wz, wz = ((w.alloc (.cells #[.int .i64 B.now, .slice a0 B.ss.length k0, .slice a1 B.cs.length k1, .slice a2 B.bs.length k2] 26)).alloc (.cells #[.int .i64 0, .slice none 0 0, .slice none 0 0, .slice none 0 0] 34)).alloc (.cells #[.int .i64 B.now, .slice none 0 0, .slice none 0 0, .slice none 0 0] 34) ∧
      Hid (Box wz w.heap.size #[.int .i64 B.now, .slice a0 B.ss.length k0, .slice a1 B.cs.length k1, .slice a2 B.bs.length k2]) ∧ Hid (Box wz (w.heap.size + 1) #[.int .i64 0, .slice none 0 0, .slice none 0 0, .slice none 0 0]) ∧
      Hid (Box wz (w.heap.size + 1 + 1) #[.int .i64 B.now, .slice none 0 0, .slice none 0 0, .slice none 0 0]) ∧ Hid (Below w.heap.size w wz) :=
    ⟨_, rfl, ((Box.new w _ _ _ rfl).on (one_al _ _)).on (one_al _ _), (Box.new _ _ _ _ (by simp)).on (one_al _ _), Box.new _ _ _ _ (by simp), ((one_al _ _).trans ((one_al _ _).mono (by simp))).trans ((one_al _ _).mono (by simp; omega))⟩
  rw [← hwz]
  clear hwz
  generalize wz = v0 at *
  have hz0 : w.heap.size + 3 ≤ v0.heap.size := by have := HO0.out.lt; omega
  refine (toSvs_any lo _ B.ss _ (HL.out.below HB0.out).svs hn0).mono ?_
  rintro e w0 ⟨u0, rfl, hb0, hs0⟩
  obtain ⟨b0, m0, rfl⟩ := hs0.form
  have GX := hide (HX0.out.on hb0)
  have GR := hide (HR0.out.on hb0)
  have GO := hide (HO0.out.on hb0)
  have GB := hide (HB0.out.trans (hb0.mono HB0.out.size))
  have GN : Hid (SvsAt (w.heap.size + 3) w0 (.slice b0 B.ss.length m0) B.ss) := hs0.mono hz0
  clear hb0 hs0 HX0 HR0 HO0 HB0 hz0
  have o0 := GO.out.cell 1
  have f0 := GO.out.free 1
  have x1 := GX.out.cell 2
  simp at o0 f0 x1
  go_wp2_with fail
  clear o0 f0 x1
  obtain ⟨v1, hwq, HX1, HR1, HO1, HB1, HS0⟩ : ∃ wq, wq = w0.setCell ⟨w.heap.size + 1 + 1, 1, none⟩ (.slice b0 B.ss.length m0) ∧
      Hid (Box wq w.heap.size #[.int .i64 B.now, .slice a0 B.ss.length k0, .slice a1 B.cs.length k1, .slice a2 B.bs.length k2]) ∧ Hid (Box wq (w.heap.size + 1) #[.int .i64 0, .slice none 0 0, .slice none 0 0, .slice none 0 0]) ∧
      Hid (Box wq (w.heap.size + 1 + 1) #[.int .i64 B.now, .slice b0 B.ss.length m0, .slice none 0 0, .slice none 0 0]) ∧ Hid (Below w.heap.size w wq) ∧ Hid (SvsAt (w.heap.size + 3) wq (.slice b0 B.ss.length m0) B.ss) :=
    ⟨_, rfl, GX.out.setFar (by simp only []; omega) _, GR.out.setFar (by simp only []; omega) _, GO.out.set (k := 1) (.slice b0 B.ss.length m0) (by simp), GB.out.setCell (by simp only []; omega) _, GN.out.set (by simp only []; omega) _⟩
  rw [← hwq]
  clear hwq GX GR GO GB GN
  have hz1 : w.heap.size + 3 ≤ v1.heap.size := by have := HO1.out.lt; omega
  refine (toCps_any lo _ B.cs _ (HL.out.below HB1.out).cps hn1).mono ?_
  rintro e w1 ⟨u1, rfl, hb1, hs1⟩
  obtain ⟨b1, m1, rfl⟩ := hs1.form
  have GX := hide (HX1.out.on hb1)
  have GR := hide (HR1.out.on hb1)
  have GO := hide (HO1.out.on hb1)
  have GB := hide (HB1.out.trans (hb1.mono HB1.out.size))
  have GN : Hid (CpsAt (w.heap.size + 3) w1 (.slice b1 B.cs.length m1) B.cs) := hs1.mono hz1
  have G0 := hide (HS0.out.below hb1)
  clear hb1 hs1 HX1 HR1 HO1 HB1 hz1 HS0
  have o0 := GO.out.cell 2
  have f0 := GO.out.free 2
  have x1 := GX.out.cell 3
  simp at o0 f0 x1
  go_wp2_with fail
  clear o0 f0 x1
  obtain ⟨v2, hwq, HX2, HR2, HO2, HB2, HS1, HS0⟩ : ∃ wq, wq = w1.setCell ⟨w.heap.size + 1 + 1, 2, none⟩ (.slice b1 B.cs.length m1) ∧
      Hid (Box wq w.heap.size #[.int .i64 B.now, .slice a0 B.ss.length k0, .slice a1 B.cs.length k1, .slice a2 B.bs.length k2]) ∧ Hid (Box wq (w.heap.size + 1) #[.int .i64 0, .slice none 0 0, .slice none 0 0, .slice none 0 0]) ∧
      Hid (Box wq (w.heap.size + 1 + 1) #[.int .i64 B.now, .slice b0 B.ss.length m0, .slice b1 B.cs.length m1, .slice none 0 0]) ∧ Hid (Below w.heap.size w wq) ∧ Hid (CpsAt (w.heap.size + 3) wq (.slice b1 B.cs.length m1) B.cs) ∧ Hid (SvsAt (w.heap.size + 3) wq (.slice b0 B.ss.length m0) B.ss) :=
    ⟨_, rfl, GX.out.setFar (by simp only []; omega) _, GR.out.setFar (by simp only []; omega) _, GO.out.set (k := 2) (.slice b1 B.cs.length m1) (by simp), GB.out.setCell (by simp only []; omega) _, GN.out.set (by simp only []; omega) _, G0.out.set (by simp only []; omega) _⟩
  rw [← hwq]
  clear hwq GX GR GO GB GN G0
  have hz2 : w.heap.size + 3 ≤ v2.heap.size := by have := HO2.out.lt; omega
  refine (toBes_any lo _ B.bs _ (HL.out.below HB2.out).bes hn2).mono ?_
  rintro e w2 ⟨u2, rfl, hb2, hs2⟩
  obtain ⟨b2, m2, rfl⟩ := hs2.form
  have GX := hide (HX2.out.on hb2)
  have GR := hide (HR2.out.on hb2)
  have GO := hide (HO2.out.on hb2)
  have GB := hide (HB2.out.trans (hb2.mono HB2.out.size))
  have GN : Hid (BesAt (w.heap.size + 3) w2 (.slice b2 B.bs.length m2) B.bs) := hs2.mono hz2
  have G0 := hide (HS0.out.below hb2)
  have G1 := hide (HS1.out.below hb2)
  clear hb2 hs2 HX2 HR2 HO2 HB2 hz2 HS0 HS1
  have o0 := GO.out.cell 0
  have o1 := GO.out.cell 1
  have o2 := GO.out.cell 2
  have o3 := GO.out.cell 3
  have f3 := GO.out.free 3
  have r0 := GR.out.cell 0
  have g0 := GR.out.free 0
  have r1 := GR.out.cell 1
  have g1 := GR.out.free 1
  have r2 := GR.out.cell 2
  have g2 := GR.out.free 2
  have r3 := GR.out.cell 3
  have g3 := GR.out.free 3
  simp at o0 o1 o2 o3 r0 r1 r2 r3
  go_wp2
  refine bodyPost_ret (v := .agg #[.int .i64 B.now, .slice b0 B.ss.length m0, .slice b1 B.cs.length m1, .slice b2 B.bs.length m2]) (by simp [results, Tryz.results6, go_sem, r0, r1, r2, r3]) rfl ⟨_, _, _, _, _, _, rfl, ?_, ?_, ?_, ?_⟩
  · repeat (refine Below.setCell ?_ (by simp only []; omega) _)
    exact GB.out
  · refine SvsAt.mono (lo := w.heap.size + 3) ?_ (by omega)
    repeat (refine SvsAt.set ?_ (by simp only []; omega) _)
    exact G0.out
  · refine CpsAt.mono (lo := w.heap.size + 3) ?_ (by omega)
    repeat (refine CpsAt.set ?_ (by simp only []; omega) _)
    exact G1.out
  · refine BesAt.mono (lo := w.heap.size + 3) ?_ (by omega)
    repeat (refine BesAt.set ?_ (by simp only []; omega) _)
    exact GN.out
end
end Go.Proofs.YtpdlcccnlciecaaGreat
namespace Go.Proofs.YtpdlcccnlciecaaGreat
open Go.RowKit Go.Deep

/-! what is asked of a stewards' book -/
theorem inB_lo {lo hi n : Int} (h : inB lo hi n = true) : lo ≤ n := by unfold inB at h; simp at h; exact h.1
theorem inB_hi {lo hi n : Int} (h : inB lo hi n = true) : n ≤ hi := by unfold inB at h; simp at h; exact h.2
def nmB (s : ByteArray) : Bool := inB 1 20 s.size && allB nameByte s
def perB (x : Sv) : Bool := if x.pr == 0 then (x.ls == 0) && ((x.ms == 0) && ((x.ld == 0) && (x.cl == 0))) else inB 0 1000000 x.pr && (inB 0 1000000 x.ld && (inB 0 10 x.ls && (inB x.ls 10 x.ms && inB 0 3 x.cl)))
def svB (now : Int) (x : Sv) : Bool := (nmB x.nm && (inB 1 now x.ve && (inB 1 1000000 x.im && (inB 1 1000000 x.nx && (inB 0 10 x.wa && (inB 0 10 x.dn && (inB 0 10 x.ov && (!(x.dn + x.ov == 0) && perB x))))))))
/-- the place of the first that is so -/
def pls {X : Type} (p : X → Bool) (L : List X) : Int := match L.findIdx? p with | some i => i | none => -1
def svP (L : List Sv) (s : ByteArray) : Int := pls (fun x => x.nm.toList == s.toList) L
def beP (L : List Be) (s : ByteArray) : Int := pls (fun x => x.nm.toList == s.toList) L
end Go.Proofs.YtpdlcccnlciecaaGreat
