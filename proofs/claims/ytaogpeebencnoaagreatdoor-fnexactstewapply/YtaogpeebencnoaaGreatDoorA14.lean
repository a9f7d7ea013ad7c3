import Derived.Test.YtaogpeebencnoaaGreatDoorA07
import Derived.Test.YtaogpeebencnoaaGreatDoorA08
import Derived.Test.YtaogpeebencnoaaGreatDoorA09
import Derived.Test.YtaogpeebencnoaaGreatDoorA10
import Derived.Test.YtaogpeebencnoaaGreatDoorA11
import Derived.Test.YtaogpeebencnoaaGreatDoorA12
import Derived.Test.YtaogpeebencnoaaGreatDoorA13
import Derived.Deep.RegionHeld3
namespace Go.Proofs.YtaogpeebencnoaaGreatDoor
open Go.RowKit Go.Deep

theorem Box.touch {w w' : World} {β lo hi : Nat} {cs : Array Value} (h : Box w β cs) (ht : Touch lo hi w w') (hb : β < lo ∨ hi ≤ β) : Box w' β cs :=
  ⟨Nat.lt_of_lt_of_le h.lt ht.size, fun i => (ht.cell (p := ⟨β, i, none⟩) h.lt hb).trans (h.cell i), fun i => (ht.frozen (p := ⟨β, i, none⟩) h.lt hb).trans (h.free i)⟩
/-- the parts of a book of one's own lie apart -/
structure ApartS (lo hi s0 s1 c0 c1 b0 b1 : Nat) : Prop where
  s : lo ≤ s0 ∧ s1 ≤ hi
  c : lo ≤ c0 ∧ c1 ≤ hi
  b : lo ≤ b0 ∧ b1 ≤ hi
  sc : s1 ≤ c0 ∨ c1 ≤ s0
  sb : s1 ≤ b0 ∨ b1 ≤ s0
  cb : c1 ≤ b0 ∨ b1 ≤ c0
/-- a book of one's own -/
def SbOwn (lo hi : Nat) (w : World) (sv cv bv : Value) (B : Sb) : Prop :=
  ∃ s0 s1 c0 c1 b0 b1 : Nat, ApartS lo hi s0 s1 c0 c1 b0 b1 ∧ SvsOwn s0 s1 w sv B.ss ∧ CpsOwn c0 c1 w cv B.cs ∧ BesOwn b0 b1 w bv B.bs
theorem SbOwn.at {lo hi : Nat} {w : World} {sv cv bv : Value} {B : Sb} (h : SbOwn lo hi w sv cv bv B) : SbAt lo w sv cv bv B := by
  obtain ⟨_, _, _, _, _, _, ha, h1, h2, h3⟩ := h
  exact ⟨h1.at.mono ha.s.1, h2.at.mono ha.c.1, h3.at.mono ha.b.1⟩
theorem SbOwn.below {lo hi : Nat} {w w' : World} {sv cv bv : Value} {B : Sb} (h : SbOwn lo hi w sv cv bv B) (hb : Below w.heap.size w w') : SbOwn lo hi w' sv cv bv B := by
  obtain ⟨s0, s1, c0, c1, b0, b1, ha, h1, h2, h3⟩ := h
  exact ⟨s0, s1, c0, c1, b0, b1, ha, h1.below hb, h2.below hb, h3.below hb⟩
theorem SbOwn.touch {lo hi lo' hi' : Nat} {w w' : World} {sv cv bv : Value} {B : Sb} (h : SbOwn lo hi w sv cv bv B) (ht : Touch lo' hi' w w') (ho : hi ≤ lo' ∨ hi' ≤ lo) : SbOwn lo hi w' sv cv bv B := by
  obtain ⟨s0, s1, c0, c1, b0, b1, ha, h1, h2, h3⟩ := h
  have := ha.s
  have := ha.c
  have := ha.b
  exact ⟨s0, s1, c0, c1, b0, b1, ha, h1.touch ht (by omega), h2.touch ht (by omega), h3.touch ht (by omega)⟩
theorem SbOwn.wide {lo hi lo' hi' : Nat} {w : World} {sv cv bv : Value} {B : Sb} (h : SbOwn lo hi w sv cv bv B) (h1 : lo' ≤ lo) (h2 : hi ≤ hi') : SbOwn lo' hi' w sv cv bv B := by
  obtain ⟨s0, s1, c0, c1, b0, b1, ⟨q0, q1, q2, r0, r1, r2⟩, hh⟩ := h
  exact ⟨s0, s1, c0, c1, b0, b1, ⟨by omega, by omega, by omega, r0, r1, r2⟩, hh⟩
def mkSb (k : Int) (B : Sb) : Sb := ⟨B.now, mkSvs k B.ss, mkCps (k + (posSv B.ss B.ss.length : Int)) B.cs, mkBes (k + (posSv B.ss B.ss.length : Int) + (posCp B.cs B.cs.length : Int)) B.bs⟩
def endSb (k : Int) (B : Sb) : Int := k + (posSv B.ss B.ss.length : Int) + (posCp B.cs B.cs.length : Int) + (posBe B.bs B.bs.length : Int)
theorem posSb_le {B : Sb} (hn : SbSmall B) : posSv B.ss B.ss.length ≤ 4000000000000 ∧ posCp B.cs B.cs.length ≤ 4000000000000 ∧ posBe B.bs B.bs.length ≤ 4000000000000 := by
  obtain ⟨h1, h2, h3⟩ := hn
  have := posSv_le h1 (i := B.ss.length) (Nat.le_refl _)
  have := posCp_le h2 (i := B.cs.length) (Nat.le_refl _)
  have := posBe_le h3 (i := B.bs.length) (Nat.le_refl _)
  have := h1.1
  have := h2.1
  have := h3.1
  omega

section
variable (lo hi : Nat) (sv cv bv : Value) (B : Sb) (w : World)

set_option maxRecDepth 20000 in
set_option maxHeartbeats 4000000 in
theorem markSb_any (k : Int) (h : SbOwn lo hi w sv cv bv B) (hn : SbSmall B) (h0 : 0 ≤ k) (hk : k ≤ 1900000000000000000) (hhi : hi ≤ w.heap.size) :
    Calls Tryz.prog 12 #[.agg #[.int .i64 B.now, sv, cv, bv], .int .i64 k] w fun e w' => e = .returned (.int .i64 (endSb k B)) ∧ Touch lo hi w w' ∧ SbOwn lo hi w' sv cv bv (mkSb k B) := by
  obtain ⟨s0, s1, c0, c1, b0, b1, ha, h1, h2, h3⟩ := h
  obtain ⟨z0, z1, z2⟩ := posSb_le hn
  have HN := hide hn
  have HP := hide ha
  obtain ⟨⟨y0, y1⟩, ⟨y2, y3⟩, ⟨y4, y5⟩, ysc, ysb, ycb⟩ := ha
  have H1 := hide h1
  have H2 := hide h2
  have H3 := hide h3
  obtain ⟨a0, k0, rfl⟩ := h1.form
  obtain ⟨a1, k1, rfl⟩ := h2.form
  obtain ⟨a2, k2, rfl⟩ := h3.form
  clear h1 h2 h3 hn
  go_enter Tryz.func12, Tryz.ntmps12
  go_wp2_with fail
  generalize hWa : w.alloc _ = Wa
  have hb : Below w.heap.size w Wa := by rw [← hWa]; exact one_al w _
  have HX0 : Hid (Box Wa w.heap.size #[.int .i64 B.now, .slice a0 B.ss.length k0, .slice a1 B.cs.length k1, .slice a2 B.bs.length k2]) := by rw [← hWa]; exact Box.new _ _ _ _ rfl
  have HT0 : Hid (Touch lo hi w Wa) := Touch.below hb
  replace H1 := hide (H1.out.below hb)
  replace H2 := hide (H2.out.below hb)
  replace H3 := hide (H3.out.below hb)
  clear hWa hb
  refine (markSvs_any s0 s1 _ B.ss _ _ H1.out HN.out.1 (by omega) (by omega)).mono ?_
  rintro e w1 ⟨rfl, ht1, hq1⟩
  have HX1 := hide (HX0.out.touch ht1 (by omega))
  have HT1 : Hid (Touch lo hi w w1) := HT0.out.trans (ht1.wide (by omega) (by omega))
  replace H1 := hide hq1
  replace H2 := hide (H2.out.touch ht1 (by omega))
  replace H3 := hide (H3.out.touch ht1 (by omega))
  clear ht1 hq1 HX0 HT0
  have c1 := HX1.out.cell 2
  simp at c1
  go_wp2_with fail
  clear c1
  refine (markCps_any c0 c1 _ B.cs _ _ H2.out HN.out.2.1 (by omega) (by omega)).mono ?_
  rintro e w2 ⟨rfl, ht2, hq2⟩
  have HX2 := hide (HX1.out.touch ht2 (by omega))
  have HT2 : Hid (Touch lo hi w w2) := HT1.out.trans (ht2.wide (by omega) (by omega))
  replace H1 := hide (H1.out.touch ht2 (by omega))
  replace H2 := hide hq2
  replace H3 := hide (H3.out.touch ht2 (by omega))
  clear ht2 hq2 HX1 HT1
  have c2 := HX2.out.cell 3
  simp at c2
  go_wp2_with fail
  clear c2
  refine (markBes_any b0 b1 _ B.bs _ _ H3.out HN.out.2.2 (by omega) (by omega)).mono ?_
  rintro e w3 ⟨rfl, ht3, hq3⟩
  have HX3 := hide (HX2.out.touch ht3 (by omega))
  have HT3 : Hid (Touch lo hi w w3) := HT2.out.trans (ht3.wide (by omega) (by omega))
  replace H1 := hide (H1.out.touch ht3 (by omega))
  replace H2 := hide (H2.out.touch ht3 (by omega))
  replace H3 := hide hq3
  clear ht3 hq3 HX2 HT2
  go_wp2
  go_ret
  exact ⟨rfl, HT3.out, s0, s1, c0, c1, b0, b1, HP.out, H1.out, H2.out, H3.out⟩

set_option maxRecDepth 20000 in
set_option maxHeartbeats 4000000 in
theorem heldSb_any (k : Int) (h : SbOwn lo hi w sv cv bv (mkSb k B)) (hn : SbSmall B) (h0 : 0 ≤ k) (hk : k ≤ 1900000000000000000) :
    Calls Tryz.prog 14 #[.agg #[.int .i64 B.now, sv, cv, bv], .int .i64 k] w fun e w' => e = .returned (.int .i64 (endSb k B)) ∧ Below w.heap.size w w' := by
  obtain ⟨s0, s1, c0, c1, b0, b1, ha, h1, h2, h3⟩ := h
  obtain ⟨z0, z1, z2⟩ := posSb_le hn
  have HN := hide hn
  clear ha
  have H1 : Hid (SvsOwn s0 s1 w sv (mkSvs k B.ss)) := h1
  have H2 : Hid (CpsOwn c0 c1 w cv (mkCps (k + (posSv B.ss B.ss.length : Int)) B.cs)) := h2
  have H3 : Hid (BesOwn b0 b1 w bv (mkBes (k + (posSv B.ss B.ss.length : Int) + (posCp B.cs B.cs.length : Int)) B.bs)) := h3
  obtain ⟨a0, k0, rfl⟩ := H1.out.form
  obtain ⟨a1, k1, rfl⟩ := H2.out.form
  obtain ⟨a2, k2, rfl⟩ := H3.out.form
  rw [mkSvs_len] at H1
  rw [mkCps_len] at H2
  rw [mkBes_len] at H3
  rw [mkSvs_len, mkCps_len, mkBes_len]
  clear h1 h2 h3 hn
  go_enter Tryz.func14, Tryz.ntmps14
  go_wp2_with fail
  generalize hWa : w.alloc _ = Wa
  have HB0 : Hid (Below w.heap.size w Wa) := by rw [← hWa]; exact one_al w _
  have HX0 : Hid (Box Wa w.heap.size #[.int .i64 B.now, .slice a0 B.ss.length k0, .slice a1 B.cs.length k1, .slice a2 B.bs.length k2]) := by rw [← hWa]; exact Box.new _ _ _ _ rfl
  clear hWa
  refine (heldSvs_any s0 s1 _ B.ss _ _ (H1.out.below HB0.out) HN.out.1 (by omega) (by omega)).mono ?_
  rintro e w1 ⟨rfl, hb1⟩
  have HX1 := hide (HX0.out.on hb1)
  have HB1 : Hid (Below w.heap.size w w1) := HB0.out.trans (hb1.mono HB0.out.size)
  have hg1 : decide (k + (posSv B.ss B.ss.length : Int) < 0) = false := by simp; omega
  clear hb1 HX0 HB0
  have c1 := HX1.out.cell 2
  simp at c1
  go_wp2_with fail
  clear c1
  refine (heldCps_any c0 c1 _ B.cs _ _ (H2.out.below HB1.out) HN.out.2.1 (by omega) (by omega)).mono ?_
  rintro e w2 ⟨rfl, hb2⟩
  have HX2 := hide (HX1.out.on hb2)
  have HB2 : Hid (Below w.heap.size w w2) := HB1.out.trans (hb2.mono HB1.out.size)
  have hg2 : decide (k + (posSv B.ss B.ss.length : Int) + (posCp B.cs B.cs.length : Int) < 0) = false := by simp; omega
  clear hb2 HX1 HB1
  have c2 := HX2.out.cell 3
  simp at c2
  go_wp2_with fail
  clear c2
  refine (heldBes_any b0 b1 _ B.bs _ _ (H3.out.below HB2.out) HN.out.2.2 (by omega) (by omega)).mono ?_
  rintro e w3 ⟨rfl, hb3⟩
  have HX3 := hide (HX2.out.on hb3)
  have HB3 : Hid (Below w.heap.size w w3) := HB2.out.trans (hb3.mono HB2.out.size)
  have hg3 : decide (k + (posSv B.ss B.ss.length : Int) + (posCp B.cs B.cs.length : Int) + (posBe B.bs B.bs.length : Int) < 0) = false := by simp; omega
  clear hb3 HX2 HB2
  go_wp2
  go_ret
  exact ⟨rfl, HB3.out⟩
end
end Go.Proofs.YtaogpeebencnoaaGreatDoor
namespace Go.Proofs.YtaogpeebencnoaaGreatDoor
open Go.RowKit Go.Deep

theorem SvsOwn.setLow {lo hi : Nat} {w : World} {v : Value} {Xl : List Sv} (h : SvsOwn lo hi w v Xl) {p : Addr} (hp : p.block < lo) (u : Value) : SvsOwn lo hi (w.setCell p u) v Xl := h.touch (Touch.setCell p.block (p.block + 1) w p u ⟨Nat.le_refl _, Nat.lt_succ_self _⟩) (Or.inr hp)
theorem CpsOwn.setLow {lo hi : Nat} {w : World} {v : Value} {Xl : List Cp} (h : CpsOwn lo hi w v Xl) {p : Addr} (hp : p.block < lo) (u : Value) : CpsOwn lo hi (w.setCell p u) v Xl := h.touch (Touch.setCell p.block (p.block + 1) w p u ⟨Nat.le_refl _, Nat.lt_succ_self _⟩) (Or.inr hp)
theorem BesOwn.setLow {lo hi : Nat} {w : World} {v : Value} {Xl : List Be} (h : BesOwn lo hi w v Xl) {p : Addr} (hp : p.block < lo) (u : Value) : BesOwn lo hi (w.setCell p u) v Xl := h.touch (Touch.setCell p.block (p.block + 1) w p u ⟨Nat.le_refl _, Nat.lt_succ_self _⟩) (Or.inr hp)

section
variable (lo : Nat) (sv cv bv : Value) (B : Sb) (w : World)

set_option maxHeartbeats 8000000 in
theorem toSbO_any (h : SbAt lo w sv cv bv B) (hn : SbSmall B) :
    Calls Tryz.prog 7 #[.agg #[.int .i64 B.now, sv, cv, bv]] w
      fun e w' => ∃ b0 m0 b1 m1 b2 m2, e = .returned (.agg #[.int .i64 B.now, .slice b0 B.ss.length m0, .slice b1 B.cs.length m1, .slice b2 B.bs.length m2]) ∧ Below w.heap.size w w' ∧ SbOwn w.heap.size w'.heap.size w' (.slice b0 B.ss.length m0) (.slice b1 B.cs.length m1) (.slice b2 B.bs.length m2) B := by
  have HL := hide h
  obtain ⟨a0, k0, rfl⟩ := h.svs.form
  obtain ⟨a1, k1, rfl⟩ := h.cps.form
  obtain ⟨a2, k2, rfl⟩ := h.bes.form
  obtain ⟨hn0, hn1, hn2⟩ := hn
  clear h
  go_enter Tryz.func7, Tryz.ntmps7
  go_wp2_with fail
  obtain ⟨wz, hwz, HX0, HR0, HO0, HB0⟩ : ∃ wz, wz = ((w.alloc (.cells #[.int .i64 B.now, .slice a0 B.ss.length k0, .slice a1 B.cs.length k1, .slice a2 B.bs.length k2] 26)).alloc (.cells #[.int .i64 0, .slice none 0 0, .slice none 0 0, .slice none 0 0] 36)).alloc (.cells #[.int .i64 B.now, .slice none 0 0, .slice none 0 0, .slice none 0 0] 36) ∧
      Hid (Box wz w.heap.size #[.int .i64 B.now, .slice a0 B.ss.length k0, .slice a1 B.cs.length k1, .slice a2 B.bs.length k2]) ∧ Hid (Box wz (w.heap.size + 1) #[.int .i64 0, .slice none 0 0, .slice none 0 0, .slice none 0 0]) ∧ Hid (Box wz (w.heap.size + 1 + 1) #[.int .i64 B.now, .slice none 0 0, .slice none 0 0, .slice none 0 0]) ∧ Hid (Below w.heap.size w wz) :=
    ⟨_, rfl, ((Box.new w _ _ _ rfl).on (one_al _ _)).on (one_al _ _), (Box.new _ _ _ _ (by simp)).on (one_al _ _), Box.new _ _ _ _ (by simp), ((one_al _ _).trans ((one_al _ _).mono (by simp))).trans ((one_al _ _).mono (by simp; omega))⟩
  rw [← hwz]
  clear hwz
  generalize wz = v0 at *
  have hz0 : w.heap.size + 3 ≤ v0.heap.size := by have := HO0.out.lt; omega
  refine (toSvsO_any lo _ B.ss _ (HL.out.below HB0.out).svs hn0).mono ?_
  rintro e w0 ⟨u0, rfl, hb0, hs0⟩
  obtain ⟨b0, m0, rfl⟩ := hs0.form
  have GX := hide (HX0.out.on hb0)
  have GR := hide (HR0.out.on hb0)
  have GO := hide (HO0.out.on hb0)
  have GB := hide (HB0.out.trans (hb0.mono HB0.out.size))
  have GN := hide hs0
  have hsz0 := hb0.size
  clear hb0 hs0 HX0 HR0 HO0 HB0
  have o0 := GO.out.cell 1
  have f0 := GO.out.free 1
  have x1 := GX.out.cell 2
  simp at o0 f0 x1
  go_wp2_with fail
  clear o0 f0 x1
  obtain ⟨v1, hwq, HX1, HR1, HO1, HB1, hq1, HS0⟩ : ∃ wq, wq = w0.setCell ⟨w.heap.size + 1 + 1, 1, none⟩ (.slice b0 B.ss.length m0) ∧
      Hid (Box wq w.heap.size #[.int .i64 B.now, .slice a0 B.ss.length k0, .slice a1 B.cs.length k1, .slice a2 B.bs.length k2]) ∧ Hid (Box wq (w.heap.size + 1) #[.int .i64 0, .slice none 0 0, .slice none 0 0, .slice none 0 0]) ∧ Hid (Box wq (w.heap.size + 1 + 1) #[.int .i64 B.now, .slice b0 B.ss.length m0, .slice none 0 0, .slice none 0 0]) ∧ Hid (Below w.heap.size w wq) ∧ wq.heap.size = w0.heap.size ∧ Hid (SvsOwn v0.heap.size w0.heap.size wq (.slice b0 B.ss.length m0) B.ss) :=
    ⟨_, rfl, GX.out.setFar (by simp only []; omega) _, GR.out.setFar (by simp only []; omega) _, GO.out.set (k := 1) (.slice b0 B.ss.length m0) (by simp), GB.out.setCell (by simp only []; omega) _, by simp [World.setCell], GN.out.setLow (by simp only []; omega) _⟩
  rw [← hwq]
  clear hwq GX GR GO GB GN
  have hz1 : w.heap.size + 3 ≤ v1.heap.size := by omega
  refine (toCpsO_any lo _ B.cs _ (HL.out.below HB1.out).cps hn1).mono ?_
  rintro e w1 ⟨u1, rfl, hb1, hs1⟩
  obtain ⟨b1, m1, rfl⟩ := hs1.form
  have GX := hide (HX1.out.on hb1)
  have GR := hide (HR1.out.on hb1)
  have GO := hide (HO1.out.on hb1)
  have GB := hide (HB1.out.trans (hb1.mono HB1.out.size))
  have GN := hide hs1
  have hsz1 := hb1.size
  have G0 := hide (HS0.out.below hb1)
  clear hb1 hs1 HX1 HR1 HO1 HB1 HS0
  have o0 := GO.out.cell 2
  have f0 := GO.out.free 2
  have x1 := GX.out.cell 3
  simp at o0 f0 x1
  go_wp2_with fail
  clear o0 f0 x1
  obtain ⟨v2, hwq, HX2, HR2, HO2, HB2, hq2, HS1, HS0⟩ : ∃ wq, wq = w1.setCell ⟨w.heap.size + 1 + 1, 2, none⟩ (.slice b1 B.cs.length m1) ∧
      Hid (Box wq w.heap.size #[.int .i64 B.now, .slice a0 B.ss.length k0, .slice a1 B.cs.length k1, .slice a2 B.bs.length k2]) ∧ Hid (Box wq (w.heap.size + 1) #[.int .i64 0, .slice none 0 0, .slice none 0 0, .slice none 0 0]) ∧ Hid (Box wq (w.heap.size + 1 + 1) #[.int .i64 B.now, .slice b0 B.ss.length m0, .slice b1 B.cs.length m1, .slice none 0 0]) ∧ Hid (Below w.heap.size w wq) ∧ wq.heap.size = w1.heap.size ∧ Hid (CpsOwn v1.heap.size w1.heap.size wq (.slice b1 B.cs.length m1) B.cs) ∧ Hid (SvsOwn v0.heap.size w0.heap.size wq (.slice b0 B.ss.length m0) B.ss) :=
    ⟨_, rfl, GX.out.setFar (by simp only []; omega) _, GR.out.setFar (by simp only []; omega) _, GO.out.set (k := 2) (.slice b1 B.cs.length m1) (by simp), GB.out.setCell (by simp only []; omega) _, by simp [World.setCell], GN.out.setLow (by simp only []; omega) _, G0.out.setLow (by simp only []; omega) _⟩
  rw [← hwq]
  clear hwq GX GR GO GB GN G0
  have hz2 : w.heap.size + 3 ≤ v2.heap.size := by omega
  refine (toBesO_any lo _ B.bs _ (HL.out.below HB2.out).bes hn2).mono ?_
  rintro e w2 ⟨u2, rfl, hb2, hs2⟩
  obtain ⟨b2, m2, rfl⟩ := hs2.form
  have GX := hide (HX2.out.on hb2)
  have GR := hide (HR2.out.on hb2)
  have GO := hide (HO2.out.on hb2)
  have GB := hide (HB2.out.trans (hb2.mono HB2.out.size))
  have GN := hide hs2
  have hsz2 := hb2.size
  have G0 := hide (HS0.out.below hb2)
  have G1 := hide (HS1.out.below hb2)
  clear hb2 hs2 HX2 HR2 HO2 HB2 HS0 HS1
  have o0 := GO.out.cell 0
  have o1 := GO.out.cell 1
  have o2 := GO.out.cell 2
  have o3 := GO.out.cell 3
  have f6 := GO.out.free 3
  have r0 := GR.out.cell 0
  have g0 := GR.out.free 0
  have r1 := GR.out.cell 1
  have g1 := GR.out.free 1
  have r2 := GR.out.cell 2
  have g2 := GR.out.free 2
  have r3 := GR.out.cell 3
  have g3 := GR.out.free 3
  simp at o0 r0 o1 r1 o2 r2 o3 r3
  go_wp2
  refine bodyPost_ret (v := .agg #[.int .i64 B.now, .slice b0 B.ss.length m0, .slice b1 B.cs.length m1, .slice b2 B.bs.length m2]) (by simp [results, Tryz.results7, go_sem, r0, r1, r2, r3]) rfl ⟨_, _, _, _, _, _, rfl, ?_, v0.heap.size, w0.heap.size, v1.heap.size, w1.heap.size, v2.heap.size, w2.heap.size, ⟨?_, ?_, ?_, by omega, by omega, by omega⟩, ?_, ?_, ?_⟩
  · repeat (refine Below.setCell ?_ (by simp only []; omega) _)
    exact GB.out
  · simp [World.setCell]; omega
  · simp [World.setCell]; omega
  · simp [World.setCell]; omega
  · repeat (refine SvsOwn.setLow ?_ (by simp only []; omega) _)
    exact G0.out
  · repeat (refine CpsOwn.setLow ?_ (by simp only []; omega) _)
    exact G1.out
  · repeat (refine BesOwn.setLow ?_ (by simp only []; omega) _)
    exact GN.out
end
end Go.Proofs.YtaogpeebencnoaaGreatDoor
namespace Go.Proofs.YtaogpeebencnoaaGreatDoor
open Go.RowKit Go.Deep

/-- an act -/
structure Ac where
  sv : ByteArray
  sn : Int
  cr : Int
  wa : Int
  cl : Int
  sc : Bool
  es : List En
  dp : Bool
/-- an act in memory -/
structure AcAt (lo : Nat) (w : World) (ev : Value) (A : Ac) : Prop where
  ens : EnsAt lo w ev A.es
  siz : A.sv.size ≤ maxLen
theorem AcAt.below {lo : Nat} {w w' : World} {ev : Value} {A : Ac} (h : AcAt lo w ev A) (hb : Below w.heap.size w w') : AcAt lo w' ev A := ⟨h.ens.below hb, h.siz⟩
theorem AcAt.mono {lo lo' : Nat} {w : World} {ev : Value} {A : Ac} (h : AcAt lo w ev A) (hl : lo' ≤ lo) : AcAt lo' w ev A := ⟨h.ens.mono hl, h.siz⟩
def AcSmall (A : Ac) : Prop := EnsSmall A.es
/-- an act of one's own -/
structure AcOwn (lo hi : Nat) (w : World) (ev : Value) (A : Ac) : Prop where
  ens : EnsOwn lo hi w ev A.es
  siz : A.sv.size ≤ maxLen
theorem AcOwn.at {lo hi : Nat} {w : World} {ev : Value} {A : Ac} (h : AcOwn lo hi w ev A) : AcAt lo w ev A := ⟨h.ens.at, h.siz⟩
theorem AcOwn.below {lo hi : Nat} {w w' : World} {ev : Value} {A : Ac} (h : AcOwn lo hi w ev A) (hb : Below w.heap.size w w') : AcOwn lo hi w' ev A := ⟨h.ens.below hb, h.siz⟩
theorem AcOwn.touch {lo hi lo' hi' : Nat} {w w' : World} {ev : Value} {A : Ac} (h : AcOwn lo hi w ev A) (ht : Touch lo' hi' w w') (ho : hi ≤ lo' ∨ hi' ≤ lo) : AcOwn lo hi w' ev A := ⟨h.ens.touch ht ho, h.siz⟩
theorem EnsOwn.setLow {lo hi : Nat} {w : World} {v : Value} {Xl : List En} (h : EnsOwn lo hi w v Xl) {p : Addr} (hp : p.block < lo) (u : Value) : EnsOwn lo hi (w.setCell p u) v Xl := h.touch (Touch.setCell p.block (p.block + 1) w p u ⟨Nat.le_refl _, Nat.lt_succ_self _⟩) (Or.inr hp)

theorem EnsOwn.wide {lo hi lo' hi' : Nat} {w : World} {v : Value} {Xl : List En} (h : EnsOwn lo hi w v Xl) (h1 : lo' ≤ lo) (h2 : hi ≤ hi') : EnsOwn lo' hi' w v Xl := by
  rcases h with h | ⟨b, off, cap, c, X, e1, e2, e3, e4, e5, ⟨q1, q2, q3, q4, q5, q6, q7, q8⟩⟩
  · exact Or.inl h
  · exact Or.inr ⟨b, off, cap, c, X, e1, e2, e3, e4, e5, ⟨q1, Nat.le_trans h1 q2, q3, Nat.lt_of_lt_of_le q4 h2, q5, Nat.le_trans q6 h2, q7, q8⟩⟩

section
variable (lo : Nat) (ev : Value) (A : Ac) (w : World)

set_option maxHeartbeats 1000000 in
theorem szEnsS_any (Xl : List En) (left : Int) (h0 : 0 ≤ left) (h1 : left ≤ 1048576) (h : EnsAt lo w ev Xl) :
    Calls Tryz.prog 18 #[ev, .int .i64 left] w fun e w' => ∃ r : Int, e = .returned (.int .i64 r) ∧ Below w.heap.size w w' ∧ -1 ≤ r ∧ r ≤ left ∧ (0 ≤ r → EnsSmall Xl) := by
  obtain ⟨a0, k0, rfl⟩ := h.form
  have hm := h.max
  unfold maxLen at hm
  clear h
  have hw : IntKind.i64.wrap (left - (Xl.length : Int)) = left - (Xl.length : Int) := by rw [IntWalk.i64_left]; unfold wrap64; omega
  by_cases hq : left - (Xl.length : Int) < 0
  · go_enter Tryz.func18, Tryz.ntmps18
    go_wp2
    go_ret
    exact ⟨-1, rfl, Below.refl _ _, by omega, by omega, fun h => by omega⟩
  · go_enter Tryz.func18, Tryz.ntmps18
    go_wp2
    go_ret
    exact ⟨_, rfl, Below.refl _ _, by omega, by omega, fun h => ⟨by omega, fun _ _ => rfl⟩⟩

set_option maxRecDepth 20000 in
set_option maxHeartbeats 2000000 in
theorem szAc_any (left : Int) (h0 : 0 ≤ left) (h1 : left ≤ 1048576) (h : AcAt lo w ev A) :
    Calls Tryz.prog 5 #[.agg #[.string A.sv, .int .i64 A.sn, .int .i64 A.cr, .int .i64 A.wa, .int .i64 A.cl, .bool A.sc, ev, .bool A.dp], .int .i64 left] w
      fun e w' => ∃ r : Int, e = .returned (.int .i64 r) ∧ Below w.heap.size w w' ∧ -1 ≤ r ∧ r ≤ left ∧ (0 ≤ r → AcSmall A) := by
  have HL := hide h
  obtain ⟨a0, k0, rfl⟩ := h.ens.form
  have hm := h.siz
  unfold maxLen at hm
  clear h
  have hw : IntKind.i64.wrap (left - (A.sv.size : Int)) = left - (A.sv.size : Int) := by rw [IntWalk.i64_left]; unfold wrap64; omega
  by_cases hq : left - (A.sv.size : Int) < 0
  · go_enter Tryz.func5, Tryz.ntmps5
    go_wp2
    go_ret
    exact ⟨-1, rfl, one_al _ _, by omega, by omega, fun h => by omega⟩
  · go_enter Tryz.func5, Tryz.ntmps5
    go_wp2_with fail
    generalize hWa : w.alloc _ = Wa
    have HB0 : Hid (Below w.heap.size w Wa) := by rw [← hWa]; exact one_al w _
    clear hWa
    refine (szEnsS_any lo _ _ A.es _ (by omega) (by omega) (HL.out.below HB0.out).ens).mono ?_
    rintro e w1 ⟨r, rfl, hb1, p1, q1, s1⟩
    have HB1 := hide (bt HB0.out hb1)
    have S1 := hide s1
    clear hb1 s1
    by_cases hn : r < 0
    · go_wp2
      go_ret
      exact ⟨-1, rfl, HB1.out, by omega, by omega, fun h => by omega⟩
    · go_wp2
      go_ret
      exact ⟨r, rfl, HB1.out, by omega, by omega, fun h => S1.out h⟩

set_option maxRecDepth 20000 in
set_option maxHeartbeats 2000000 in
theorem eqAc_same (lo' : Nat) (ev' : Value) (h : AcAt lo w ev A) (h' : AcAt lo' w ev' A) :
    Calls Tryz.prog 11 #[.agg #[.string A.sv, .int .i64 A.sn, .int .i64 A.cr, .int .i64 A.wa, .int .i64 A.cl, .bool A.sc, ev, .bool A.dp], .agg #[.string A.sv, .int .i64 A.sn, .int .i64 A.cr, .int .i64 A.wa, .int .i64 A.cl, .bool A.sc, ev', .bool A.dp]] w
      fun e w' => e = .returned (.bool true) ∧ Below w.heap.size w w' := by
  have HL := hide h
  have HR := hide h'
  obtain ⟨a0, k0, rfl⟩ := h.ens.form
  obtain ⟨a1, k1, rfl⟩ := h'.ens.form
  clear h h'
  have hr := bytes_refl A.sv
  go_enter Tryz.func11, Tryz.ntmps11
  go_wp2_with fail
  generalize hWa : World.alloc (w.alloc _) _ = Wa
  have HB0 : Hid (Below w.heap.size w Wa) := by rw [← hWa]; exact (one_al w _).alloc (by simp) _
  have FA : Hid (Box Wa w.heap.size #[.string A.sv, .int .i64 A.sn, .int .i64 A.cr, .int .i64 A.wa, .int .i64 A.cl, .bool A.sc, .slice a0 A.es.length k0, .bool A.dp]) := by rw [← hWa]; exact (Box.new _ _ _ _ rfl).on (one_al _ _)
  have FB : Hid (Box Wa (w.heap.size + 1) #[.string A.sv, .int .i64 A.sn, .int .i64 A.cr, .int .i64 A.wa, .int .i64 A.cl, .bool A.sc, .slice a1 A.es.length k1, .bool A.dp]) := by rw [← hWa]; exact Box.new _ _ _ _ (by simp)
  clear hWa
  refine (eqEns_same lo lo' _ _ A.es _ (HL.out.below HB0.out).ens (HR.out.below HB0.out).ens).mono ?_
  rintro e w1 ⟨rfl, hb1⟩
  have HB1 := hide (bt HB0.out hb1)
  have x := (FA.out.on hb1).cell 7
  have y := (FB.out.on hb1).cell 7
  simp at x y
  clear hb1
  go_wp2
  go_ret
  exact ⟨rfl, HB1.out⟩

set_option maxRecDepth 20000 in
set_option maxHeartbeats 4000000 in
theorem toAcO_any (h : AcAt lo w ev A) (hn : AcSmall A) :
    Calls Tryz.prog 8 #[.agg #[.string A.sv, .int .i64 A.sn, .int .i64 A.cr, .int .i64 A.wa, .int .i64 A.cl, .bool A.sc, ev, .bool A.dp]] w
      fun e w' => ∃ b m, e = .returned (.agg #[.string A.sv, .int .i64 A.sn, .int .i64 A.cr, .int .i64 A.wa, .int .i64 A.cl, .bool A.sc, .slice b A.es.length m, .bool A.dp]) ∧ Below w.heap.size w w' ∧ AcOwn w.heap.size w'.heap.size w' (.slice b A.es.length m) A := by
  have HL := hide h
  have HN := hide hn
  obtain ⟨a0, k0, rfl⟩ := h.ens.form
  clear h hn
  go_enter Tryz.func8, Tryz.ntmps8
  go_wp2_with fail
  obtain ⟨wz, hwz, HX0, HR0, HO0, HB0⟩ : ∃ wz, wz = ((w.alloc (.cells #[.string A.sv, .int .i64 A.sn, .int .i64 A.cr, .int .i64 A.wa, .int .i64 A.cl, .bool A.sc, .slice a0 A.es.length k0, .bool A.dp] 29)).alloc (.cells #[.string ⟨#[]⟩, .int .i64 0, .int .i64 0, .int .i64 0, .int .i64 0, .bool false, .slice none 0 0, .bool false] 42)).alloc (.cells #[.string A.sv, .int .i64 A.sn, .int .i64 A.cr, .int .i64 A.wa, .int .i64 A.cl, .bool A.sc, .slice none 0 0, .bool false] 42) ∧
      Hid (Box wz w.heap.size #[.string A.sv, .int .i64 A.sn, .int .i64 A.cr, .int .i64 A.wa, .int .i64 A.cl, .bool A.sc, .slice a0 A.es.length k0, .bool A.dp]) ∧ Hid (Box wz (w.heap.size + 1) #[.string ⟨#[]⟩, .int .i64 0, .int .i64 0, .int .i64 0, .int .i64 0, .bool false, .slice none 0 0, .bool false]) ∧ Hid (Box wz (w.heap.size + 1 + 1) #[.string A.sv, .int .i64 A.sn, .int .i64 A.cr, .int .i64 A.wa, .int .i64 A.cl, .bool A.sc, .slice none 0 0, .bool false]) ∧ Hid (Below w.heap.size w wz) :=
    ⟨_, rfl, ((Box.new w _ _ _ rfl).on (one_al _ _)).on (one_al _ _), (Box.new _ _ _ _ (by simp)).on (one_al _ _), Box.new _ _ _ _ (by simp), ((one_al _ _).trans ((one_al _ _).mono (by simp))).trans ((one_al _ _).mono (by simp; omega))⟩
  rw [← hwz]
  clear hwz
  have hz0 : w.heap.size + 3 ≤ wz.heap.size := by have := HO0.out.lt; omega
  refine (toEnsO_any lo _ A.es _ (HL.out.below HB0.out).ens HN.out).mono ?_
  rintro e w1 ⟨u, rfl, hb1, hs1⟩
  obtain ⟨b, m, rfl⟩ := hs1.form
  have GO := hide (HO0.out.on hb1)
  have GR := hide (HR0.out.on hb1)
  have GX := hide (HX0.out.on hb1)
  have GB := hide (bt HB0.out hb1)
  have GN := hide hs1
  have hz1 := hb1.size
  clear hb1 hs1 HX0 HR0 HO0 HB0
  have o0 := GO.out.cell
  have f0 := GO.out.free
  have r0 := GR.out.cell
  have g0 := GR.out.free
  have x0 := GX.out.cell
  go_wp2
  refine bodyPost_ret (v := .agg #[.string A.sv, .int .i64 A.sn, .int .i64 A.cr, .int .i64 A.wa, .int .i64 A.cl, .bool A.sc, .slice b A.es.length m, .bool A.dp]) (by simp [results, Tryz.results8, go_sem, r0]) rfl ⟨b, m, rfl, ?_, ⟨?_, HL.out.siz⟩⟩
  · repeat (refine Below.setCell ?_ (by simp only []; omega) _)
    exact GB.out
  · have hq : EnsOwn wz.heap.size w1.heap.size w1 (.slice b A.es.length m) A.es := GN.out
    refine EnsOwn.wide (lo := wz.heap.size) (hi := w1.heap.size) ?_ (by omega) (by simp [World.setCell])
    repeat (refine EnsOwn.setLow ?_ (by simp only []; omega) _)
    exact hq

set_option maxHeartbeats 1000000 in
theorem markAc_any (hi : Nat) (k : Int) (h : AcOwn lo hi w ev A) (hn : AcSmall A) (h0 : 0 ≤ k) (hk : k ≤ 1900000000000000000) (_hhi : hi ≤ w.heap.size) :
    Calls Tryz.prog 13 #[.agg #[.string A.sv, .int .i64 A.sn, .int .i64 A.cr, .int .i64 A.wa, .int .i64 A.cl, .bool A.sc, ev, .bool A.dp], .int .i64 k] w fun e w' => e = .returned (.int .i64 (k + (posEn A.es A.es.length : Int))) ∧ Touch lo hi w w' := by
  have H := hide h.ens
  have HN := hide hn
  obtain ⟨a0, k0, rfl⟩ := h.ens.form
  clear h hn
  go_enter Tryz.func13, Tryz.ntmps13
  go_wp2_with fail
  generalize hWa : w.alloc _ = Wa
  have HB0 : Hid (Below w.heap.size w Wa) := by rw [← hWa]; exact one_al w _
  clear hWa
  refine (markEns_any lo hi _ A.es _ _ (H.out.below HB0.out) HN.out h0 (by omega)).mono ?_
  rintro e w1 ⟨rfl, ht, -⟩
  have HT := hide ((Touch.below HB0.out : Touch lo hi w Wa).trans ht)
  clear ht
  go_wp2
  go_ret
  exact ⟨rfl, HT.out⟩
end
end Go.Proofs.YtaogpeebencnoaaGreatDoor
namespace Go.Proofs.YtaogpeebencnoaaGreatDoor
open Go.RowKit Go.Deep

/-- two boxes, above a world -/
abbrev Held2 (W0 : World) (b1 : Nat) (cs1 : Array Value) (b2 : Nat) (cs2 : Array Value) (W : World) : Prop :=
  (∀ i, W.cell? ⟨b1, i, none⟩ = cs1[i]?) ∧ (∀ i, W.cell? ⟨b2, i, none⟩ = cs2[i]?) ∧ Hid (Below W0.heap.size W0 W ∧ b1 < W0.heap.size ∧ b2 < W0.heap.size)
theorem Held2.drew {W0 : World} {b1 b2 : Nat} {cs1 cs2 : Array Value} (h1 : Box W0 b1 cs1) (h2 : Box W0 b2 cs2) : Held2 W0 b1 cs1 b2 cs2 W0.drew := ⟨h1.cell, h2.cell, (Below.refl _ _).drew, h1.lt, h2.lt⟩
theorem Held2.on {W0 W W' : World} {b1 b2 : Nat} {cs1 cs2 : Array Value} (h : Held2 W0 b1 cs1 b2 cs2 W) (hb : Below W.heap.size W W') : Held2 W0 b1 cs1 b2 cs2 W' := by
  obtain ⟨h1, h2, h4⟩ := h
  have hz := h4.out.1.size
  have q1 := h4.out.2.1
  have q2 := h4.out.2.2
  exact ⟨fun i => (hb.cell (p := ⟨b1, i, none⟩) (show b1 < W.heap.size by omega)).trans (h1 i), fun i => (hb.cell (p := ⟨b2, i, none⟩) (show b2 < W.heap.size by omega)).trans (h2 i), h4.out.1.trans (hb.mono hz), q1, q2⟩
theorem Held2.alloc {W0 W : World} {b1 b2 : Nat} {cs1 cs2 : Array Value} (h : Held2 W0 b1 cs1 b2 cs2 W) (o : Obj) : Held2 W0 b1 cs1 b2 cs2 (W.alloc o) := h.on (one_al _ _)
theorem Held2.set {W0 W : World} {b1 b2 : Nat} {cs1 cs2 : Array Value} (h : Held2 W0 b1 cs1 b2 cs2 W) {p : Addr} (hp : W0.heap.size ≤ p.block) (u : Value) : Held2 W0 b1 cs1 b2 cs2 (W.setCell p u) := by
  obtain ⟨h1, h2, h3⟩ := h
  have q1 := h3.out.2.1
  have q2 := h3.out.2.2
  exact ⟨fun i => (cell_setCell_ne _ _ _ _ (by show b1 ≠ p.block; omega)).trans (h1 i), fun i => (cell_setCell_ne _ _ _ _ (by show b2 ≠ p.block; omega)).trans (h2 i), h3.out.1.setCell hp u, q1, q2⟩
theorem Held2.swap {W0 W : World} {b1 b2 : Nat} {cs1 cs2 : Array Value} {o : Obj} (h : Held2 W0 b1 cs1 b2 cs2 (W.alloc o)) (hb : Below W0.heap.size W0 W) (o' : Obj) : Held2 W0 b1 cs1 b2 cs2 (W.alloc o') := by
  obtain ⟨h1, h2, h3⟩ := h
  have hs := hb.size
  have q1 := h3.out.2.1
  have q2 := h3.out.2.2
  exact Held2.alloc ⟨fun i => ((one_al W o).cell (p := ⟨b1, i, none⟩) (by simp only []; omega)).symm.trans (h1 i), fun i => ((one_al W o).cell (p := ⟨b2, i, none⟩) (by simp only []; omega)).symm.trans (h2 i), hb, q1, q2⟩ o'
/-- a variable that holds a book, which lies in memory -/
def AnsS (w : World) (β : Nat) (B : Sb) : Prop := ∃ b0 m0 b1 m1 b2 m2, Box w β (#[Value.int .i64 B.now, .slice b0 B.ss.length m0, .slice b1 B.cs.length m1, .slice b2 B.bs.length m2]) ∧ SbAt 0 w (.slice b0 B.ss.length m0) (.slice b1 B.cs.length m1) (.slice b2 B.bs.length m2) B
theorem AnsS.new {lo hi : Nat} {w5 : World} {B : Sb} {b0 m0 b1 m1 b2 m2} (ho : SbOwn lo hi w5 (.slice b0 B.ss.length m0) (.slice b1 B.cs.length m1) (.slice b2 B.bs.length m2) B) (t : TypeId) : AnsS (w5.alloc (.cells (#[Value.int .i64 B.now, .slice b0 B.ss.length m0, .slice b1 B.cs.length m1, .slice b2 B.bs.length m2]) t)) w5.heap.size B :=
  ⟨_, _, _, _, _, _, Box.new _ _ _ _ rfl, (ho.below (one_al _ _)).at.mono (Nat.zero_le _)⟩
theorem SbOwn.setLow {lo hi : Nat} {w : World} {sv cv bv : Value} {B : Sb} (h : SbOwn lo hi w sv cv bv B) {p : Addr} (hp : p.block < lo) (u : Value) : SbOwn lo hi (w.setCell p u) sv cv bv B := h.touch (Touch.setCell p.block (p.block + 1) w p u ⟨Nat.le_refl _, Nat.lt_succ_self _⟩) (Or.inr hp)
theorem AnsS.set {lo hi β : Nat} {w5 : World} {B : Sb} {b0 m0 b1 m1 b2 m2} (hx : Box w5 β #[Value.int .i64 0, .slice none 0 0, .slice none 0 0, .slice none 0 0]) (ho : SbOwn lo hi w5 (.slice b0 B.ss.length m0) (.slice b1 B.cs.length m1) (.slice b2 B.bs.length m2) B) (hb : β < lo) : AnsS ((((w5.setCell ⟨β, 0, none⟩ (.int .i64 B.now)).setCell ⟨β, 1, none⟩ (.slice b0 B.ss.length m0)).setCell ⟨β, 2, none⟩ (.slice b1 B.cs.length m1)).setCell ⟨β, 3, none⟩ (.slice b2 B.bs.length m2)) β B :=
  ⟨_, _, _, _, _, _, (((hx.set (k := 0) (.int .i64 B.now) (by simp)).set (k := 1) (.slice b0 B.ss.length m0) (by simp)).set (k := 2) (.slice b1 B.cs.length m1) (by simp)).set (k := 3) (.slice b2 B.bs.length m2) (by simp), ((((ho.setLow (p := ⟨β, 0, none⟩) hb _).setLow (p := ⟨β, 1, none⟩) hb _).setLow (p := ⟨β, 2, none⟩) hb _).setLow (p := ⟨β, 3, none⟩) hb _).at.mono (Nat.zero_le _)⟩
theorem below_sets4 {n β : Nat} {a w5 : World} (h : Below n a w5) (hb : n ≤ β) (v0 v1 v2 v3 : Value) : Below n a ((((w5.setCell ⟨β, 0, none⟩ v0).setCell ⟨β, 1, none⟩ v1).setCell ⟨β, 2, none⟩ v2).setCell ⟨β, 3, none⟩ v3) :=
  (((h.setCell hb _).setCell hb _).setCell hb _).setCell hb _
theorem drew_on2 {X Y : World} (h : Below X.drew.heap.size X.drew Y) : Below X.heap.size X Y := bt ((Below.refl _ _).drew) h
theorem al_drew_on2 {X Y : World} {o : Obj} (h : Below (X.alloc o).drew.heap.size (X.alloc o).drew Y) : Below X.heap.size X Y := bt ((one_al X o).drew) h
theorem Held2.aldrew {W0 : World} {b1 b2 : Nat} {cs1 cs2 : Array Value} (h1 : Box W0 b1 cs1) (h2 : Box W0 b2 cs2) (o : Obj) : Held2 W0 b1 cs1 b2 cs2 (W0.alloc o).drew := ⟨(h1.on (one_al _ _)).cell, (h2.on (one_al _ _)).cell, (one_al _ _).drew, h1.lt, h2.lt⟩
theorem al_on2 {X Y : World} {o : Obj} (h : Below (X.alloc o).heap.size (X.alloc o) Y) : Below X.heap.size X Y := bt (one_al _ _) h
theorem endSb_bd {k : Int} {B : Sb} (hn : SbSmall B) (h : 0 ≤ k) : 0 ≤ endSb k B ∧ endSb k B ≤ k + 12000000000000 := by
  obtain ⟨z0, z1, z2⟩ := posSb_le hn
  unfold endSb
  omega
/-- a book and a code, in memory of one's own -/
def SbAns (w : World) (e : Ending) (w' : World) (B : Sb) (c : Int) : Prop :=
  ∃ b0 m0 b1 m1 b2 m2, e = .returned (.tuple #[.agg #[Value.int .i64 B.now, .slice b0 B.ss.length m0, .slice b1 B.cs.length m1, .slice b2 B.bs.length m2], .int .i64 c]) ∧ Below w.heap.size w w' ∧ SbOwn w.heap.size w'.heap.size w' (.slice b0 B.ss.length m0) (.slice b1 B.cs.length m1) (.slice b2 B.bs.length m2) B

end Go.Proofs.YtaogpeebencnoaaGreatDoor
namespace Go.Proofs.YtaogpeebencnoaaGreatDoor
open Go.RowKit Go.Deep

def svF (L : List Sv) (s : ByteArray) : Option Sv := L.find? fun x => x.nm.toList == s.toList
def hasBe (L : List Be) (s : ByteArray) : Bool := L.any fun x => x.nm.toList == s.toList
def cpT (B : Sb) (c : Cp) (x : Sv) : Bool := inB 1 (x.nx - 1) c.nu && (inB 1 B.now c.ve && (inB 1 1000000 c.im && (inB 1 4 c.st && (if c.st == 1 then c.be.toList.isEmpty else hasBe B.bs c.be))))
def cpB (B : Sb) (c : Cp) : Bool := match svF B.ss c.se with
  | none => false
  | some x => cpT B c x
def aheadB (a b : Cp) : Bool := Op.bytesLess a.se.toList b.se.toList || ((a.se.toList == b.se.toList) && decide (a.nu < b.nu))
/-- each stands behind the one ahead of it -/
def risN {X : Type} (r : X → X → Bool) (L : List X) : Nat → Bool
  | 0 => true
  | j + 1 => match L[j]?, L[j + 1]? with
    | some x, some y => r x y
    | _, _ => true
def risR {X : Type} (r : X → X → Bool) (L : List X) : Bool := (List.range L.length).all (risN r L)
theorem risN_at {X : Type} {r : X → X → Bool} {L : List X} {j : Nat} (h : j + 1 < L.length) : risN r L (j + 1) = r L[j] L[j + 1] := by
  show (match L[j]?, L[j + 1]? with | some x, some y => r x y | _, _ => true) = _
  rw [List.getElem?_eq_getElem (by omega), List.getElem?_eq_getElem h]
def rSv (x y : Sv) : Bool := Op.bytesLess x.nm.toList y.nm.toList
def rBe (x y : Be) : Bool := Op.bytesLess x.nm.toList y.nm.toList
def beB (x : Be) : Bool := nmB x.nm
/-- where a service stands; whether a berth is there -/
def svI (L : List Sv) (s : ByteArray) : Nat := L.findIdx fun x => x.nm.toList == s.toList
def SvPl (L : List Sv) (s : ByteArray) (r : Int) : Prop := (r = -1 ∧ svF L s = none) ∨ (r = (svI L s : Int) ∧ ∃ (h : svI L s < L.length), svF L s = some L[svI L s])
def BePl (L : List Be) (s : ByteArray) (r : Int) : Prop := decide (0 ≤ r) = hasBe L s
/-- a valid book -/
def validB (B : Sb) : Bool := inB 0 1000000 B.now && (decide (B.ss.length ≤ 8) && (decide (B.cs.length ≤ 200) && (decide (B.bs.length ≤ 6) && ((B.ss.all (svB B.now) && risR rSv B.ss) && ((B.bs.all beB && risR rBe B.bs) && (B.cs.all (cpB B) && risR aheadB B.cs))))))
theorem all_no {X : Type} {L : List X} {f : X → Bool} {k : Nat} (hk : k < L.length) (h : f L[k] = false) : L.all f = false := by
  rw [List.all_eq_false]
  exact ⟨L[k], List.getElem_mem hk, by simp [h]⟩
theorem all_yes {X : Type} {L : List X} {f : X → Bool} (h : ∀ i (h : i < L.length), f L[i] = true) : L.all f = true := by
  rw [List.all_eq_true]
  intro x hx
  obtain ⟨i, hi, rfl⟩ := List.getElem_of_mem hx
  exact h i hi
theorem all_at {X : Type} {L : List X} {f : X → Bool} (h : L.all f = true) {k : Nat} (hk : k < L.length) : f L[k] = true := List.all_eq_true.1 h _ (List.getElem_mem hk)
theorem step_all {X : Type} {L : List X} {f : X → Bool} {k : Nat} (hall : ∀ j (h : j < L.length), j < k → f L[j] = true) (hk : k < L.length) (h : f L[k] = true) : ∀ j (h : j < L.length), j < k + 1 → f L[j] = true := fun j hj hjk => by
  by_cases e : j = k
  · subst e; exact h
  · exact hall j hj (by omega)
theorem find_at {X : Type} {L : List X} {f : X → Bool} {k : Nat} (hk : k < L.length) (hno : ∀ j (h : j < L.length), j < k → f L[j] = false) (h : f L[k] = true) : L.find? f = some L[k] := by
  rw [List.find?_eq_some_iff_getElem]
  exact ⟨h, k, hk, rfl, fun j hj => by rw [hno j (by omega) hj]; rfl⟩
theorem idx_at {X : Type} {L : List X} {f : X → Bool} {k : Nat} (hk : k < L.length) (hno : ∀ j (h : j < L.length), j < k → f L[j] = false) (h : f L[k] = true) : L.findIdx f = k := (List.findIdx_eq hk).2 ⟨h, fun j hj => hno j (by omega) hj⟩
theorem SvPl.at {L : List Sv} {s : ByteArray} {k : Nat} (hk : k < L.length) (hno : ∀ j (h : j < L.length), j < k → (L[j].nm.toList == s.toList) = false) (h : (L[k].nm.toList == s.toList) = true) : SvPl L s (k : Int) := by
  have hi : svI L s = k := idx_at (f := fun x : Sv => x.nm.toList == s.toList) hk hno h
  refine Or.inr ?_
  rw [hi]
  exact ⟨rfl, hk, find_at (f := fun x : Sv => x.nm.toList == s.toList) hk hno h⟩
theorem find_none {X : Type} {L : List X} {f : X → Bool} (hno : ∀ j (h : j < L.length), f L[j] = false) : L.find? f = none := by
  rw [List.find?_eq_none]
  intro x hx
  obtain ⟨i, hi, rfl⟩ := List.getElem_of_mem hx
  rw [hno i hi]; exact Bool.false_ne_true
theorem any_at {X : Type} {L : List X} {f : X → Bool} {k : Nat} (hk : k < L.length) (h : f L[k] = true) : L.any f = true := List.any_eq_true.2 ⟨_, List.getElem_mem hk, h⟩
theorem any_none {X : Type} {L : List X} {f : X → Bool} (hno : ∀ j (h : j < L.length), f L[j] = false) : L.any f = false := by
  rw [List.any_eq_false]
  intro x hx
  obtain ⟨i, hi, rfl⟩ := List.getElem_of_mem hx
  rw [hno i hi]; exact Bool.false_ne_true
theorem svB_nx {now : Int} {x : Sv} (h : svB now x = true) : 1 ≤ x.nx ∧ x.nx ≤ 1000000 := by
  unfold svB at h
  simp only [Bool.and_eq_true] at h
  have := h.2.2.2.1
  exact ⟨inB_lo this, inB_hi this⟩
end Go.Proofs.YtaogpeebencnoaaGreatDoor
