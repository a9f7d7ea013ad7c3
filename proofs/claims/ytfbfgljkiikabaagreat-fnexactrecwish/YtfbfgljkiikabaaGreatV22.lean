import Derived.Test.YtfbfgljkiikabaaGreatV21
namespace Go.Proofs.YtfbfgljkiikabaaGreat
open Go.RowKit Go.Deep

def lo7 (a0 a1 a2 a3 a4 a5 a6 : Nat) : Nat → Nat
  | 0 => a0
  | 1 => a1
  | 2 => a2
  | 3 => a3
  | 4 => a4
  | 5 => a5
  | _ => a6
theorem seven_le {a b : Nat → Nat} (h : ∀ i, i < 6 → b i ≤ a (i + 1)) (h' : ∀ i, i < 7 → a i ≤ b i) (i : Nat) : ∀ j, i < j → j < 7 → b i ≤ a j := by
  intro j
  induction j with
  | zero => intro h1 _; omega
  | succ j ih =>
    intro h1 h2
    by_cases e : i = j
    · subst e; exact h i (by omega)
    · have := ih (by omega) (by omega)
      have := h' j (by omega)
      have := h j (by omega)
      omega
theorem seven_ap {a b : Nat → Nat} (h : ∀ i, i < 6 → b i ≤ a (i + 1)) (h' : ∀ i, i < 7 → a i ≤ b i) (i j : Nat) (hi : i < 7) (hj : j < 7) (hne : i ≠ j) : b i ≤ a j ∨ b j ≤ a i := by
  by_cases e : i < j
  · exact Or.inl (seven_le h h' i j e hj)
  · exact Or.inr (seven_le h h' j i (by omega) hi)

set_option maxRecDepth 20000 in
set_option maxHeartbeats 16000000 in
theorem toRrO_any (lo : Nat) (cs : List Value) (U : Rr) (w : World) (h : RrC lo w cs U) (hn : RrSmall U) :
    Calls Tryz.prog 9 #[.agg cs.toArray] w
      fun e w' => ∃ cs', e = .returned (.agg cs'.toArray) ∧ Below w.heap.size w w' ∧ RrOwn w.heap.size w'.heap.size w' cs' U := by
  obtain ⟨a0, k0, a1, k1, a2, k2, a3, k3, a4, k4, a5, k5, a6, k6, rfl, h⟩ := h
  show Calls Tryz.prog 9 #[.agg #[.int .i64 U.nu, .int .i64 U.of, .bool U.up, .int .i64 U.sf.pr, .int .i64 U.sf.kn, .slice a0 U.sf.sl.length k0, .int .i64 U.dk.pr, .int .i64 U.dk.kn, .slice a1 U.dk.sl.length k1, .slice a2 U.he.length k2, .slice a3 U.wi.length k3, .bool U.ld, .bool U.ty, .int .i64 U.ba, .slice a4 U.ye.length k4, .slice a5 U.be.length k5, .slice a6 U.ac.length k6, .int .i64 U.hd]] w _
  have HL := hide h
  obtain ⟨hn0, hn1, hn2, hn3, hn4, hn5, hn6⟩ := hn
  clear h
  go_enter Tryz.func9, Tryz.ntmps9
  go_wp2_with fail
  obtain ⟨wz, hwz, FX, FR, FO, HB⟩ : ∃ wz, wz = ((w.alloc (.cells #[.int .i64 U.nu, .int .i64 U.of, .bool U.up, .int .i64 U.sf.pr, .int .i64 U.sf.kn, .slice a0 U.sf.sl.length k0, .int .i64 U.dk.pr, .int .i64 U.dk.kn, .slice a1 U.dk.sl.length k1, .slice a2 U.he.length k2, .slice a3 U.wi.length k3, .bool U.ld, .bool U.ty, .int .i64 U.ba, .slice a4 U.ye.length k4, .slice a5 U.be.length k5, .slice a6 U.ac.length k6, .int .i64 U.hd] 30)).alloc (.cells #[.int .i64 0, .int .i64 0, .bool false, .int .i64 0, .int .i64 0, .slice none 0 0, .int .i64 0, .int .i64 0, .slice none 0 0, .slice none 0 0, .slice none 0 0, .bool false, .bool false, .int .i64 0, .slice none 0 0, .slice none 0 0, .slice none 0 0, .int .i64 0] 41)).alloc (.cells #[.int .i64 U.nu, .int .i64 U.of, .bool U.up, .int .i64 0, .int .i64 0, .slice none 0 0, .int .i64 0, .int .i64 0, .slice none 0 0, .slice none 0 0, .slice none 0 0, .bool false, .bool false, .int .i64 0, .slice none 0 0, .slice none 0 0, .slice none 0 0, .int .i64 0] 41) ∧
      Hid (Box wz w.heap.size #[.int .i64 U.nu, .int .i64 U.of, .bool U.up, .int .i64 U.sf.pr, .int .i64 U.sf.kn, .slice a0 U.sf.sl.length k0, .int .i64 U.dk.pr, .int .i64 U.dk.kn, .slice a1 U.dk.sl.length k1, .slice a2 U.he.length k2, .slice a3 U.wi.length k3, .bool U.ld, .bool U.ty, .int .i64 U.ba, .slice a4 U.ye.length k4, .slice a5 U.be.length k5, .slice a6 U.ac.length k6, .int .i64 U.hd]) ∧ Hid (Box wz (w.heap.size + 1) #[.int .i64 0, .int .i64 0, .bool false, .int .i64 0, .int .i64 0, .slice none 0 0, .int .i64 0, .int .i64 0, .slice none 0 0, .slice none 0 0, .slice none 0 0, .bool false, .bool false, .int .i64 0, .slice none 0 0, .slice none 0 0, .slice none 0 0, .int .i64 0]) ∧ Hid (Box wz (w.heap.size + 1 + 1) #[.int .i64 U.nu, .int .i64 U.of, .bool U.up, .int .i64 0, .int .i64 0, .slice none 0 0, .int .i64 0, .int .i64 0, .slice none 0 0, .slice none 0 0, .slice none 0 0, .bool false, .bool false, .int .i64 0, .slice none 0 0, .slice none 0 0, .slice none 0 0, .int .i64 0]) ∧ Hid (Below w.heap.size w wz) :=
    ⟨_, rfl, ((Box.new w _ _ _ rfl).on (one_al _ _)).on (one_al _ _), (Box.new _ _ _ _ (by simp)).on (one_al _ _), Box.new _ _ _ _ (by simp), ((one_al _ _).trans ((one_al _ _).mono (by simp))).trans ((one_al _ _).mono (by simp; omega))⟩
  rw [← hwz]
  clear hwz
  generalize wz = v0 at *
  have hz0 : w.heap.size + 3 ≤ v0.heap.size := by have := FO.out.lt; omega
  refine (toRdO_any lo _ U.sf _ (⟨_, _, rfl, ⟨(HL.out.below HB.out).l0⟩⟩) hn0).mono ?_
  rintro e x0 ⟨b0, m0, rfl, hb, hs⟩
  have N0 := hide hs
  rw [show (rdL U.sf b0 m0).toArray = #[.int .i64 U.sf.pr, .int .i64 U.sf.kn, .slice b0 U.sf.sl.length m0] from rfl]
  replace FX := hide (FX.out.on hb)
  replace FR := hide (FR.out.on hb)
  replace FO := hide (FO.out.on hb)
  replace HB := hide (bt HB.out hb)
  have hx0 : v0.heap.size ≤ x0.heap.size := hb.size
  clear hb hs
  have g0 := FO.out.cell
  have g1 := FO.out.free
  have g2 := FX.out.cell
  go_wp2_with fail
  clear g0 g1 g2
  obtain ⟨v1, hwq, GX, GR, GO, GB, GN0⟩ : ∃ wq, wq = (((x0.setCell ⟨w.heap.size + 1 + 1, 3, none⟩ (.int .i64 U.sf.pr)).setCell ⟨w.heap.size + 1 + 1, 4, none⟩ (.int .i64 U.sf.kn)).setCell ⟨w.heap.size + 1 + 1, 5, none⟩ (.slice b0 U.sf.sl.length m0)) ∧ Hid (Box wq w.heap.size #[.int .i64 U.nu, .int .i64 U.of, .bool U.up, .int .i64 U.sf.pr, .int .i64 U.sf.kn, .slice a0 U.sf.sl.length k0, .int .i64 U.dk.pr, .int .i64 U.dk.kn, .slice a1 U.dk.sl.length k1, .slice a2 U.he.length k2, .slice a3 U.wi.length k3, .bool U.ld, .bool U.ty, .int .i64 U.ba, .slice a4 U.ye.length k4, .slice a5 U.be.length k5, .slice a6 U.ac.length k6, .int .i64 U.hd]) ∧ Hid (Box wq (w.heap.size + 1) #[.int .i64 0, .int .i64 0, .bool false, .int .i64 0, .int .i64 0, .slice none 0 0, .int .i64 0, .int .i64 0, .slice none 0 0, .slice none 0 0, .slice none 0 0, .bool false, .bool false, .int .i64 0, .slice none 0 0, .slice none 0 0, .slice none 0 0, .int .i64 0]) ∧ Hid (Box wq (w.heap.size + 1 + 1) #[.int .i64 U.nu, .int .i64 U.of, .bool U.up, .int .i64 U.sf.pr, .int .i64 U.sf.kn, .slice b0 U.sf.sl.length m0, .int .i64 0, .int .i64 0, .slice none 0 0, .slice none 0 0, .slice none 0 0, .bool false, .bool false, .int .i64 0, .slice none 0 0, .slice none 0 0, .slice none 0 0, .int .i64 0]) ∧ Hid (Below w.heap.size w wq) ∧ Hid (RssOwn v0.heap.size x0.heap.size wq (.slice b0 U.sf.sl.length m0) U.sf.sl) :=
    ⟨_, rfl, (((FX.out.setFar (by simp only []; omega) _).setFar (by simp only []; omega) _).setFar (by simp only []; omega) _), (((FR.out.setFar (by simp only []; omega) _).setFar (by simp only []; omega) _).setFar (by simp only []; omega) _), (((FO.out.set (k := 3) (.int .i64 U.sf.pr) (by simp)).set (k := 4) (.int .i64 U.sf.kn) (by simp)).set (k := 5) (.slice b0 U.sf.sl.length m0) (by simp)), (((HB.out.setCell (by simp only []; omega) _).setCell (by simp only []; omega) _).setCell (by simp only []; omega) _), (((N0.out.set (by simp only []; omega) _).set (by simp only []; omega) _).set (by simp only []; omega) _)⟩
  have hv1 : v1.heap.size = x0.heap.size := by rw [hwq]; simp [World.setCell]
  rw [← hwq]
  clear hwq FX FR FO HB N0
  have FX := GX
  have FR := GR
  have FO := GO
  have HB := GB
  have N0 := GN0
  clear GX GR GO GB GN0
  have hz1 : w.heap.size + 3 ≤ v1.heap.size := by have := FO.out.lt; omega
  refine (toRdO_any lo _ U.dk _ (⟨_, _, rfl, ⟨(HL.out.below HB.out).l1⟩⟩) hn1).mono ?_
  rintro e x1 ⟨b1, m1, rfl, hb, hs⟩
  have N1 := hide hs
  rw [show (rdL U.dk b1 m1).toArray = #[.int .i64 U.dk.pr, .int .i64 U.dk.kn, .slice b1 U.dk.sl.length m1] from rfl]
  replace FX := hide (FX.out.on hb)
  replace FR := hide (FR.out.on hb)
  replace FO := hide (FO.out.on hb)
  replace HB := hide (bt HB.out hb)
  replace N0 := hide (N0.out.below hb)
  have hx1 : v1.heap.size ≤ x1.heap.size := hb.size
  clear hb hs
  have g0 := FO.out.cell
  have g1 := FO.out.free
  have g2 := FX.out.cell
  go_wp2_with fail
  clear g0 g1 g2
  obtain ⟨v2, hwq, GX, GR, GO, GB, GN0, GN1⟩ : ∃ wq, wq = (((x1.setCell ⟨w.heap.size + 1 + 1, 6, none⟩ (.int .i64 U.dk.pr)).setCell ⟨w.heap.size + 1 + 1, 7, none⟩ (.int .i64 U.dk.kn)).setCell ⟨w.heap.size + 1 + 1, 8, none⟩ (.slice b1 U.dk.sl.length m1)) ∧ Hid (Box wq w.heap.size #[.int .i64 U.nu, .int .i64 U.of, .bool U.up, .int .i64 U.sf.pr, .int .i64 U.sf.kn, .slice a0 U.sf.sl.length k0, .int .i64 U.dk.pr, .int .i64 U.dk.kn, .slice a1 U.dk.sl.length k1, .slice a2 U.he.length k2, .slice a3 U.wi.length k3, .bool U.ld, .bool U.ty, .int .i64 U.ba, .slice a4 U.ye.length k4, .slice a5 U.be.length k5, .slice a6 U.ac.length k6, .int .i64 U.hd]) ∧ Hid (Box wq (w.heap.size + 1) #[.int .i64 0, .int .i64 0, .bool false, .int .i64 0, .int .i64 0, .slice none 0 0, .int .i64 0, .int .i64 0, .slice none 0 0, .slice none 0 0, .slice none 0 0, .bool false, .bool false, .int .i64 0, .slice none 0 0, .slice none 0 0, .slice none 0 0, .int .i64 0]) ∧ Hid (Box wq (w.heap.size + 1 + 1) #[.int .i64 U.nu, .int .i64 U.of, .bool U.up, .int .i64 U.sf.pr, .int .i64 U.sf.kn, .slice b0 U.sf.sl.length m0, .int .i64 U.dk.pr, .int .i64 U.dk.kn, .slice b1 U.dk.sl.length m1, .slice none 0 0, .slice none 0 0, .bool false, .bool false, .int .i64 0, .slice none 0 0, .slice none 0 0, .slice none 0 0, .int .i64 0]) ∧ Hid (Below w.heap.size w wq) ∧ Hid (RssOwn v0.heap.size x0.heap.size wq (.slice b0 U.sf.sl.length m0) U.sf.sl) ∧ Hid (RssOwn v1.heap.size x1.heap.size wq (.slice b1 U.dk.sl.length m1) U.dk.sl) :=
    ⟨_, rfl, (((FX.out.setFar (by simp only []; omega) _).setFar (by simp only []; omega) _).setFar (by simp only []; omega) _), (((FR.out.setFar (by simp only []; omega) _).setFar (by simp only []; omega) _).setFar (by simp only []; omega) _), (((FO.out.set (k := 6) (.int .i64 U.dk.pr) (by simp)).set (k := 7) (.int .i64 U.dk.kn) (by simp)).set (k := 8) (.slice b1 U.dk.sl.length m1) (by simp)), (((HB.out.setCell (by simp only []; omega) _).setCell (by simp only []; omega) _).setCell (by simp only []; omega) _), (((N0.out.set (by simp only []; omega) _).set (by simp only []; omega) _).set (by simp only []; omega) _), (((N1.out.set (by simp only []; omega) _).set (by simp only []; omega) _).set (by simp only []; omega) _)⟩
  have hv2 : v2.heap.size = x1.heap.size := by rw [hwq]; simp [World.setCell]
  rw [← hwq]
  clear hwq FX FR FO HB N0 N1
  have FX := GX
  have FR := GR
  have FO := GO
  have HB := GB
  have N0 := GN0
  have N1 := GN1
  clear GX GR GO GB GN0 GN1
  have hz2 : w.heap.size + 3 ≤ v2.heap.size := by have := FO.out.lt; omega
  refine (toRmsO_any lo _ U.he _ ((HL.out.below HB.out).l2) hn2).mono ?_
  rintro e x2 ⟨u, rfl, hb, hs⟩
  obtain ⟨b2, m2, rfl⟩ := hs.form
  have N2 := hide hs
  replace FX := hide (FX.out.on hb)
  replace FR := hide (FR.out.on hb)
  replace FO := hide (FO.out.on hb)
  replace HB := hide (bt HB.out hb)
  replace N0 := hide (N0.out.below hb)
  replace N1 := hide (N1.out.below hb)
  have hx2 : v2.heap.size ≤ x2.heap.size := hb.size
  clear hb hs
  have g0 := FO.out.cell
  have g1 := FO.out.free
  have g2 := FX.out.cell
  go_wp2_with fail
  clear g0 g1 g2
  obtain ⟨v3, hwq, GX, GR, GO, GB, GN0, GN1, GN2⟩ : ∃ wq, wq = (x2.setCell ⟨w.heap.size + 1 + 1, 9, none⟩ (.slice b2 U.he.length m2)) ∧ Hid (Box wq w.heap.size #[.int .i64 U.nu, .int .i64 U.of, .bool U.up, .int .i64 U.sf.pr, .int .i64 U.sf.kn, .slice a0 U.sf.sl.length k0, .int .i64 U.dk.pr, .int .i64 U.dk.kn, .slice a1 U.dk.sl.length k1, .slice a2 U.he.length k2, .slice a3 U.wi.length k3, .bool U.ld, .bool U.ty, .int .i64 U.ba, .slice a4 U.ye.length k4, .slice a5 U.be.length k5, .slice a6 U.ac.length k6, .int .i64 U.hd]) ∧ Hid (Box wq (w.heap.size + 1) #[.int .i64 0, .int .i64 0, .bool false, .int .i64 0, .int .i64 0, .slice none 0 0, .int .i64 0, .int .i64 0, .slice none 0 0, .slice none 0 0, .slice none 0 0, .bool false, .bool false, .int .i64 0, .slice none 0 0, .slice none 0 0, .slice none 0 0, .int .i64 0]) ∧ Hid (Box wq (w.heap.size + 1 + 1) #[.int .i64 U.nu, .int .i64 U.of, .bool U.up, .int .i64 U.sf.pr, .int .i64 U.sf.kn, .slice b0 U.sf.sl.length m0, .int .i64 U.dk.pr, .int .i64 U.dk.kn, .slice b1 U.dk.sl.length m1, .slice b2 U.he.length m2, .slice none 0 0, .bool false, .bool false, .int .i64 0, .slice none 0 0, .slice none 0 0, .slice none 0 0, .int .i64 0]) ∧ Hid (Below w.heap.size w wq) ∧ Hid (RssOwn v0.heap.size x0.heap.size wq (.slice b0 U.sf.sl.length m0) U.sf.sl) ∧ Hid (RssOwn v1.heap.size x1.heap.size wq (.slice b1 U.dk.sl.length m1) U.dk.sl) ∧ Hid (RmsOwn v2.heap.size x2.heap.size wq (.slice b2 U.he.length m2) U.he) :=
    ⟨_, rfl, (FX.out.setFar (by simp only []; omega) _), (FR.out.setFar (by simp only []; omega) _), (FO.out.set (k := 9) (.slice b2 U.he.length m2) (by simp)), (HB.out.setCell (by simp only []; omega) _), (N0.out.set (by simp only []; omega) _), (N1.out.set (by simp only []; omega) _), (N2.out.set (by simp only []; omega) _)⟩
  have hv3 : v3.heap.size = x2.heap.size := by rw [hwq]; simp [World.setCell]
  rw [← hwq]
  clear hwq FX FR FO HB N0 N1 N2
  have FX := GX
  have FR := GR
  have FO := GO
  have HB := GB
  have N0 := GN0
  have N1 := GN1
  have N2 := GN2
  clear GX GR GO GB GN0 GN1 GN2
  have hz3 : w.heap.size + 3 ≤ v3.heap.size := by have := FO.out.lt; omega
  refine (toRtsO_any lo _ U.wi _ ((HL.out.below HB.out).l3) hn3).mono ?_
  rintro e x3 ⟨u, rfl, hb, hs⟩
  obtain ⟨b3, m3, rfl⟩ := hs.form
  have N3 := hide hs
  replace FX := hide (FX.out.on hb)
  replace FR := hide (FR.out.on hb)
  replace FO := hide (FO.out.on hb)
  replace HB := hide (bt HB.out hb)
  replace N0 := hide (N0.out.below hb)
  replace N1 := hide (N1.out.below hb)
  replace N2 := hide (N2.out.below hb)
  have hx3 : v3.heap.size ≤ x3.heap.size := hb.size
  clear hb hs
  have g0 := FO.out.cell
  have g1 := FO.out.free
  have g2 := FX.out.cell
  go_wp2_with fail
  clear g0 g1 g2
  obtain ⟨v4, hwq, GX, GR, GO, GB, GN0, GN1, GN2, GN3⟩ : ∃ wq, wq = ((((x3.setCell ⟨w.heap.size + 1 + 1, 10, none⟩ (.slice b3 U.wi.length m3)).setCell ⟨w.heap.size + 1 + 1, 11, none⟩ (.bool U.ld)).setCell ⟨w.heap.size + 1 + 1, 12, none⟩ (.bool U.ty)).setCell ⟨w.heap.size + 1 + 1, 13, none⟩ (.int .i64 U.ba)) ∧ Hid (Box wq w.heap.size #[.int .i64 U.nu, .int .i64 U.of, .bool U.up, .int .i64 U.sf.pr, .int .i64 U.sf.kn, .slice a0 U.sf.sl.length k0, .int .i64 U.dk.pr, .int .i64 U.dk.kn, .slice a1 U.dk.sl.length k1, .slice a2 U.he.length k2, .slice a3 U.wi.length k3, .bool U.ld, .bool U.ty, .int .i64 U.ba, .slice a4 U.ye.length k4, .slice a5 U.be.length k5, .slice a6 U.ac.length k6, .int .i64 U.hd]) ∧ Hid (Box wq (w.heap.size + 1) #[.int .i64 0, .int .i64 0, .bool false, .int .i64 0, .int .i64 0, .slice none 0 0, .int .i64 0, .int .i64 0, .slice none 0 0, .slice none 0 0, .slice none 0 0, .bool false, .bool false, .int .i64 0, .slice none 0 0, .slice none 0 0, .slice none 0 0, .int .i64 0]) ∧ Hid (Box wq (w.heap.size + 1 + 1) #[.int .i64 U.nu, .int .i64 U.of, .bool U.up, .int .i64 U.sf.pr, .int .i64 U.sf.kn, .slice b0 U.sf.sl.length m0, .int .i64 U.dk.pr, .int .i64 U.dk.kn, .slice b1 U.dk.sl.length m1, .slice b2 U.he.length m2, .slice b3 U.wi.length m3, .bool U.ld, .bool U.ty, .int .i64 U.ba, .slice none 0 0, .slice none 0 0, .slice none 0 0, .int .i64 0]) ∧ Hid (Below w.heap.size w wq) ∧ Hid (RssOwn v0.heap.size x0.heap.size wq (.slice b0 U.sf.sl.length m0) U.sf.sl) ∧ Hid (RssOwn v1.heap.size x1.heap.size wq (.slice b1 U.dk.sl.length m1) U.dk.sl) ∧ Hid (RmsOwn v2.heap.size x2.heap.size wq (.slice b2 U.he.length m2) U.he) ∧ Hid (RtsOwn v3.heap.size x3.heap.size wq (.slice b3 U.wi.length m3) U.wi) :=
    ⟨_, rfl, ((((FX.out.setFar (by simp only []; omega) _).setFar (by simp only []; omega) _).setFar (by simp only []; omega) _).setFar (by simp only []; omega) _), ((((FR.out.setFar (by simp only []; omega) _).setFar (by simp only []; omega) _).setFar (by simp only []; omega) _).setFar (by simp only []; omega) _), ((((FO.out.set (k := 10) (.slice b3 U.wi.length m3) (by simp)).set (k := 11) (.bool U.ld) (by simp)).set (k := 12) (.bool U.ty) (by simp)).set (k := 13) (.int .i64 U.ba) (by simp)), ((((HB.out.setCell (by simp only []; omega) _).setCell (by simp only []; omega) _).setCell (by simp only []; omega) _).setCell (by simp only []; omega) _), ((((N0.out.set (by simp only []; omega) _).set (by simp only []; omega) _).set (by simp only []; omega) _).set (by simp only []; omega) _), ((((N1.out.set (by simp only []; omega) _).set (by simp only []; omega) _).set (by simp only []; omega) _).set (by simp only []; omega) _), ((((N2.out.set (by simp only []; omega) _).set (by simp only []; omega) _).set (by simp only []; omega) _).set (by simp only []; omega) _), ((((N3.out.set (by simp only []; omega) _).set (by simp only []; omega) _).set (by simp only []; omega) _).set (by simp only []; omega) _)⟩
  have hv4 : v4.heap.size = x3.heap.size := by rw [hwq]; simp [World.setCell]
  rw [← hwq]
  clear hwq FX FR FO HB N0 N1 N2 N3
  have FX := GX
  have FR := GR
  have FO := GO
  have HB := GB
  have N0 := GN0
  have N1 := GN1
  have N2 := GN2
  have N3 := GN3
  clear GX GR GO GB GN0 GN1 GN2 GN3
  have hz4 : w.heap.size + 3 ≤ v4.heap.size := by have := FO.out.lt; omega
  refine (toRisO_any lo _ U.ye _ ((HL.out.below HB.out).l4) hn4).mono ?_
  rintro e x4 ⟨u, rfl, hb, hs⟩
  obtain ⟨b4, m4, rfl⟩ := hs.form
  have N4 := hide hs
  replace FX := hide (FX.out.on hb)
  replace FR := hide (FR.out.on hb)
  replace FO := hide (FO.out.on hb)
  replace HB := hide (bt HB.out hb)
  replace N0 := hide (N0.out.below hb)
  replace N1 := hide (N1.out.below hb)
  replace N2 := hide (N2.out.below hb)
  replace N3 := hide (N3.out.below hb)
  have hx4 : v4.heap.size ≤ x4.heap.size := hb.size
  clear hb hs
  have g0 := FO.out.cell
  have g1 := FO.out.free
  have g2 := FX.out.cell
  go_wp2_with fail
  clear g0 g1 g2
  obtain ⟨v5, hwq, GX, GR, GO, GB, GN0, GN1, GN2, GN3, GN4⟩ : ∃ wq, wq = (x4.setCell ⟨w.heap.size + 1 + 1, 14, none⟩ (.slice b4 U.ye.length m4)) ∧ Hid (Box wq w.heap.size #[.int .i64 U.nu, .int .i64 U.of, .bool U.up, .int .i64 U.sf.pr, .int .i64 U.sf.kn, .slice a0 U.sf.sl.length k0, .int .i64 U.dk.pr, .int .i64 U.dk.kn, .slice a1 U.dk.sl.length k1, .slice a2 U.he.length k2, .slice a3 U.wi.length k3, .bool U.ld, .bool U.ty, .int .i64 U.ba, .slice a4 U.ye.length k4, .slice a5 U.be.length k5, .slice a6 U.ac.length k6, .int .i64 U.hd]) ∧ Hid (Box wq (w.heap.size + 1) #[.int .i64 0, .int .i64 0, .bool false, .int .i64 0, .int .i64 0, .slice none 0 0, .int .i64 0, .int .i64 0, .slice none 0 0, .slice none 0 0, .slice none 0 0, .bool false, .bool false, .int .i64 0, .slice none 0 0, .slice none 0 0, .slice none 0 0, .int .i64 0]) ∧ Hid (Box wq (w.heap.size + 1 + 1) #[.int .i64 U.nu, .int .i64 U.of, .bool U.up, .int .i64 U.sf.pr, .int .i64 U.sf.kn, .slice b0 U.sf.sl.length m0, .int .i64 U.dk.pr, .int .i64 U.dk.kn, .slice b1 U.dk.sl.length m1, .slice b2 U.he.length m2, .slice b3 U.wi.length m3, .bool U.ld, .bool U.ty, .int .i64 U.ba, .slice b4 U.ye.length m4, .slice none 0 0, .slice none 0 0, .int .i64 0]) ∧ Hid (Below w.heap.size w wq) ∧ Hid (RssOwn v0.heap.size x0.heap.size wq (.slice b0 U.sf.sl.length m0) U.sf.sl) ∧ Hid (RssOwn v1.heap.size x1.heap.size wq (.slice b1 U.dk.sl.length m1) U.dk.sl) ∧ Hid (RmsOwn v2.heap.size x2.heap.size wq (.slice b2 U.he.length m2) U.he) ∧ Hid (RtsOwn v3.heap.size x3.heap.size wq (.slice b3 U.wi.length m3) U.wi) ∧ Hid (RisOwn v4.heap.size x4.heap.size wq (.slice b4 U.ye.length m4) U.ye) :=
    ⟨_, rfl, (FX.out.setFar (by simp only []; omega) _), (FR.out.setFar (by simp only []; omega) _), (FO.out.set (k := 14) (.slice b4 U.ye.length m4) (by simp)), (HB.out.setCell (by simp only []; omega) _), (N0.out.set (by simp only []; omega) _), (N1.out.set (by simp only []; omega) _), (N2.out.set (by simp only []; omega) _), (N3.out.set (by simp only []; omega) _), (N4.out.set (by simp only []; omega) _)⟩
  have hv5 : v5.heap.size = x4.heap.size := by rw [hwq]; simp [World.setCell]
  rw [← hwq]
  clear hwq FX FR FO HB N0 N1 N2 N3 N4
  have FX := GX
  have FR := GR
  have FO := GO
  have HB := GB
  have N0 := GN0
  have N1 := GN1
  have N2 := GN2
  have N3 := GN3
  have N4 := GN4
  clear GX GR GO GB GN0 GN1 GN2 GN3 GN4
  have hz5 : w.heap.size + 3 ≤ v5.heap.size := by have := FO.out.lt; omega
  refine (toRssO_any lo _ U.be _ ((HL.out.below HB.out).l5) hn5).mono ?_
  rintro e x5 ⟨u, rfl, hb, hs⟩
  obtain ⟨b5, m5, rfl⟩ := hs.form
  have N5 := hide hs
  replace FX := hide (FX.out.on hb)
  replace FR := hide (FR.out.on hb)
  replace FO := hide (FO.out.on hb)
  replace HB := hide (bt HB.out hb)
  replace N0 := hide (N0.out.below hb)
  replace N1 := hide (N1.out.below hb)
  replace N2 := hide (N2.out.below hb)
  replace N3 := hide (N3.out.below hb)
  replace N4 := hide (N4.out.below hb)
  have hx5 : v5.heap.size ≤ x5.heap.size := hb.size
  clear hb hs
  have g0 := FO.out.cell
  have g1 := FO.out.free
  have g2 := FX.out.cell
  go_wp2_with fail
  clear g0 g1 g2
  obtain ⟨v6, hwq, GX, GR, GO, GB, GN0, GN1, GN2, GN3, GN4, GN5⟩ : ∃ wq, wq = (x5.setCell ⟨w.heap.size + 1 + 1, 15, none⟩ (.slice b5 U.be.length m5)) ∧ Hid (Box wq w.heap.size #[.int .i64 U.nu, .int .i64 U.of, .bool U.up, .int .i64 U.sf.pr, .int .i64 U.sf.kn, .slice a0 U.sf.sl.length k0, .int .i64 U.dk.pr, .int .i64 U.dk.kn, .slice a1 U.dk.sl.length k1, .slice a2 U.he.length k2, .slice a3 U.wi.length k3, .bool U.ld, .bool U.ty, .int .i64 U.ba, .slice a4 U.ye.length k4, .slice a5 U.be.length k5, .slice a6 U.ac.length k6, .int .i64 U.hd]) ∧ Hid (Box wq (w.heap.size + 1) #[.int .i64 0, .int .i64 0, .bool false, .int .i64 0, .int .i64 0, .slice none 0 0, .int .i64 0, .int .i64 0, .slice none 0 0, .slice none 0 0, .slice none 0 0, .bool false, .bool false, .int .i64 0, .slice none 0 0, .slice none 0 0, .slice none 0 0, .int .i64 0]) ∧ Hid (Box wq (w.heap.size + 1 + 1) #[.int .i64 U.nu, .int .i64 U.of, .bool U.up, .int .i64 U.sf.pr, .int .i64 U.sf.kn, .slice b0 U.sf.sl.length m0, .int .i64 U.dk.pr, .int .i64 U.dk.kn, .slice b1 U.dk.sl.length m1, .slice b2 U.he.length m2, .slice b3 U.wi.length m3, .bool U.ld, .bool U.ty, .int .i64 U.ba, .slice b4 U.ye.length m4, .slice b5 U.be.length m5, .slice none 0 0, .int .i64 0]) ∧ Hid (Below w.heap.size w wq) ∧ Hid (RssOwn v0.heap.size x0.heap.size wq (.slice b0 U.sf.sl.length m0) U.sf.sl) ∧ Hid (RssOwn v1.heap.size x1.heap.size wq (.slice b1 U.dk.sl.length m1) U.dk.sl) ∧ Hid (RmsOwn v2.heap.size x2.heap.size wq (.slice b2 U.he.length m2) U.he) ∧ Hid (RtsOwn v3.heap.size x3.heap.size wq (.slice b3 U.wi.length m3) U.wi) ∧ Hid (RisOwn v4.heap.size x4.heap.size wq (.slice b4 U.ye.length m4) U.ye) ∧ Hid (RssOwn v5.heap.size x5.heap.size wq (.slice b5 U.be.length m5) U.be) :=
    ⟨_, rfl, (FX.out.setFar (by simp only []; omega) _), (FR.out.setFar (by simp only []; omega) _), (FO.out.set (k := 15) (.slice b5 U.be.length m5) (by simp)), (HB.out.setCell (by simp only []; omega) _), (N0.out.set (by simp only []; omega) _), (N1.out.set (by simp only []; omega) _), (N2.out.set (by simp only []; omega) _), (N3.out.set (by simp only []; omega) _), (N4.out.set (by simp only []; omega) _), (N5.out.set (by simp only []; omega) _)⟩
  have hv6 : v6.heap.size = x5.heap.size := by rw [hwq]; simp [World.setCell]
  rw [← hwq]
  clear hwq FX FR FO HB N0 N1 N2 N3 N4 N5
  have FX := GX
  have FR := GR
  have FO := GO
  have HB := GB
  have N0 := GN0
  have N1 := GN1
  have N2 := GN2
  have N3 := GN3
  have N4 := GN4
  have N5 := GN5
  clear GX GR GO GB GN0 GN1 GN2 GN3 GN4 GN5
  have hz6 : w.heap.size + 3 ≤ v6.heap.size := by have := FO.out.lt; omega
  refine (toRasO_any lo _ U.ac _ ((HL.out.below HB.out).l6) hn6).mono ?_
  rintro e x6 ⟨u, rfl, hb, hs⟩
  obtain ⟨b6, m6, rfl⟩ := hs.form
  have N6 := hide hs
  replace FX := hide (FX.out.on hb)
  replace FR := hide (FR.out.on hb)
  replace FO := hide (FO.out.on hb)
  replace HB := hide (bt HB.out hb)
  replace N0 := hide (N0.out.below hb)
  replace N1 := hide (N1.out.below hb)
  replace N2 := hide (N2.out.below hb)
  replace N3 := hide (N3.out.below hb)
  replace N4 := hide (N4.out.below hb)
  replace N5 := hide (N5.out.below hb)
  have hx6 : v6.heap.size ≤ x6.heap.size := hb.size
  clear hb hs
  obtain ⟨ll, hll⟩ : ∃ ll, ll = rrL U b0 m0 b1 m1 b2 m2 b3 m3 b4 m4 b5 m5 b6 m6 := ⟨_, rfl⟩
  have HLL := hide hll
  have h18 : ll.toArray.size = 18 := by rw [hll]; rfl
  have FO2 : Hid (Box ((x6.setCell ⟨w.heap.size + 1 + 1, 16, none⟩ (.slice b6 U.ac.length m6)).setCell ⟨w.heap.size + 1 + 1, 17, none⟩ (.int .i64 U.hd)) (w.heap.size + 1 + 1) ll.toArray) := by unfold Hid; rw [hll]; exact (FO.out.set (k := 16) (.slice b6 U.ac.length m6) (by simp)).set (k := 17) (.int .i64 U.hd) (by simp)
  have FR2 := hide ((FR.out.setFar (p := ⟨w.heap.size + 1 + 1, 16, none⟩) (by simp only []; omega) (.slice b6 U.ac.length m6)).setFar (p := ⟨w.heap.size + 1 + 1, 17, none⟩) (by simp only []; omega) (.int .i64 U.hd))
  have HRA : Hid (World.rangeAt ((x6.setCell ⟨w.heap.size + 1 + 1, 16, none⟩ (.slice b6 U.ac.length m6)).setCell ⟨w.heap.size + 1 + 1, 17, none⟩ (.int .i64 U.hd)) (w.heap.size + 1 + 1) 0 ll) := FO2.out.range rfl
  have HTH : Hid (World.there ((x6.setCell ⟨w.heap.size + 1 + 1, 16, none⟩ (.slice b6 U.ac.length m6)).setCell ⟨w.heap.size + 1 + 1, 17, none⟩ (.int .i64 U.hd)) (w.heap.size + 1) 0 ll.toArray.size) := by unfold Hid; rw [h18]; exact FR2.out.there rfl
  have HS : Hid ((Tryz.prog.info? 41).map (·.size) = some ll.length) := by unfold Hid; rw [hll]; exact sizeRr
  have HSA : Hid ((Tryz.prog.info? 41).map (·.size) = some ll.toArray.size) := by unfold Hid; rw [hll]; exact sizeRr
  have HON : Hid (ll.toArray.all (·.oneCell') = true) := by unfold Hid; rw [hll]; simp [rrL, Value.oneCell']
  have g0 := FO.out.cell 16
  have g1 := FO.out.cell 17
  have g2 := FO.out.free 16
  have g3 := FO.out.free 17
  have g4 : x6.cell? ⟨w.heap.size, 17, none⟩ = some (.int .i64 U.hd) := FX.out.cell 17
  clear hll
  go_wp2_with (first
    | (refine wpList_load_mid rfl 41 (.tmp 3) rfl (w.heap.size + 1 + 1) 0 rfl ll _ HRA.out Tryz.underlying41 rfl HS.out ?_)
    | (refine wpList_store_mid rfl 41 (.tmp 2) (.tmp 53) rfl (w.heap.size + 1) 0 ll.toArray rfl rfl HTH.out HSA.out HON.out ?_; refine Hid.out ?_))
  clear g0 g1 g2 g3 g4
  generalize hW : World.setCells _ _ _ _ = W9
  have FR9 : Hid (Box W9 (w.heap.size + 1) ll.toArray) := by unfold Hid; rw [← hW]; exact FR2.out.full (cs' := ll.toArray) (by rw [h18]; rfl)
  have hlt : w.heap.size + 1 + 1 < w.heap.size + 3 := by omega
  have hlt1 : w.heap.size + 1 < w.heap.size + 3 := by omega
  have h9 : W9.heap.size = x6.heap.size := by rw [← hW, size_sets]; simp [World.setCell]
  have HB9 : Hid (Below w.heap.size w W9) := by unfold Hid; rw [← hW]; exact Below.sets (by omega) _ _ ((HB.out.setCell (by simp only []; omega) _).setCell (by simp only []; omega) _)
  have M0 : Hid (RssOwn v0.heap.size x0.heap.size W9 (.slice b0 U.sf.sl.length m0) U.sf.sl) := by unfold Hid; rw [← hW]; exact sets_of (P := fun W => RssOwn v0.heap.size x0.heap.size W (.slice b0 U.sf.sl.length m0) U.sf.sl) (fun _ _ u hp h => h.set hp u) (show w.heap.size + 1 < v0.heap.size by omega) _ _ _ ((N0.out.set (show w.heap.size + 1 + 1 < v0.heap.size by omega) _).set (show w.heap.size + 1 + 1 < v0.heap.size by omega) _)
  have M1 : Hid (RssOwn v1.heap.size x1.heap.size W9 (.slice b1 U.dk.sl.length m1) U.dk.sl) := by unfold Hid; rw [← hW]; exact sets_of (P := fun W => RssOwn v1.heap.size x1.heap.size W (.slice b1 U.dk.sl.length m1) U.dk.sl) (fun _ _ u hp h => h.set hp u) (show w.heap.size + 1 < v1.heap.size by omega) _ _ _ ((N1.out.set (show w.heap.size + 1 + 1 < v1.heap.size by omega) _).set (show w.heap.size + 1 + 1 < v1.heap.size by omega) _)
  have M2 : Hid (RmsOwn v2.heap.size x2.heap.size W9 (.slice b2 U.he.length m2) U.he) := by unfold Hid; rw [← hW]; exact sets_of (P := fun W => RmsOwn v2.heap.size x2.heap.size W (.slice b2 U.he.length m2) U.he) (fun _ _ u hp h => h.set hp u) (show w.heap.size + 1 < v2.heap.size by omega) _ _ _ ((N2.out.set (show w.heap.size + 1 + 1 < v2.heap.size by omega) _).set (show w.heap.size + 1 + 1 < v2.heap.size by omega) _)
  have M3 : Hid (RtsOwn v3.heap.size x3.heap.size W9 (.slice b3 U.wi.length m3) U.wi) := by unfold Hid; rw [← hW]; exact sets_of (P := fun W => RtsOwn v3.heap.size x3.heap.size W (.slice b3 U.wi.length m3) U.wi) (fun _ _ u hp h => h.set hp u) (show w.heap.size + 1 < v3.heap.size by omega) _ _ _ ((N3.out.set (show w.heap.size + 1 + 1 < v3.heap.size by omega) _).set (show w.heap.size + 1 + 1 < v3.heap.size by omega) _)
  have M4 : Hid (RisOwn v4.heap.size x4.heap.size W9 (.slice b4 U.ye.length m4) U.ye) := by unfold Hid; rw [← hW]; exact sets_of (P := fun W => RisOwn v4.heap.size x4.heap.size W (.slice b4 U.ye.length m4) U.ye) (fun _ _ u hp h => h.set hp u) (show w.heap.size + 1 < v4.heap.size by omega) _ _ _ ((N4.out.set (show w.heap.size + 1 + 1 < v4.heap.size by omega) _).set (show w.heap.size + 1 + 1 < v4.heap.size by omega) _)
  have M5 : Hid (RssOwn v5.heap.size x5.heap.size W9 (.slice b5 U.be.length m5) U.be) := by unfold Hid; rw [← hW]; exact sets_of (P := fun W => RssOwn v5.heap.size x5.heap.size W (.slice b5 U.be.length m5) U.be) (fun _ _ u hp h => h.set hp u) (show w.heap.size + 1 < v5.heap.size by omega) _ _ _ ((N5.out.set (show w.heap.size + 1 + 1 < v5.heap.size by omega) _).set (show w.heap.size + 1 + 1 < v5.heap.size by omega) _)
  have M6 : Hid (RasOwn v6.heap.size x6.heap.size W9 (.slice b6 U.ac.length m6) U.ac) := by unfold Hid; rw [← hW]; exact sets_of (P := fun W => RasOwn v6.heap.size x6.heap.size W (.slice b6 U.ac.length m6) U.ac) (fun _ _ u hp h => h.set hp u) (show w.heap.size + 1 < v6.heap.size by omega) _ _ _ ((N6.out.set (show w.heap.size + 1 + 1 < v6.heap.size by omega) _).set (show w.heap.size + 1 + 1 < v6.heap.size by omega) _)
  clear hW
  refine hide ?_
  go_wp2
  refine bodyPost_ret (v := .agg ll.toArray) (res_rr (p := 2) (ty := 41) Tryz.results9 _ _ (w.heap.size + 1) 0 ll _ rfl (FR9.out.range rfl) Tryz.underlying41 rfl HS.out) rfl ⟨ll, rfl, HB9.out, b0, m0, b1, m1, b2, m2, b3, m3, b4, m4, b5, m5, b6, m6, fun i => (lo7 v0.heap.size v1.heap.size v2.heap.size v3.heap.size v4.heap.size v5.heap.size v6.heap.size i, lo7 x0.heap.size x1.heap.size x2.heap.size x3.heap.size x4.heap.size x5.heap.size x6.heap.size i), HLL.out, ⟨fun i hi => ?_, fun i j hi hj hne => seven_ap (a := lo7 v0.heap.size v1.heap.size v2.heap.size v3.heap.size v4.heap.size v5.heap.size v6.heap.size) (b := lo7 x0.heap.size x1.heap.size x2.heap.size x3.heap.size x4.heap.size x5.heap.size x6.heap.size) ?_ ?_ i j hi hj hne, M0.out, M1.out, M2.out, M3.out, M4.out, M5.out, M6.out⟩⟩
  · match i, hi with
    | 0, _ => simp only [lo7]; omega
    | 1, _ => simp only [lo7]; omega
    | 2, _ => simp only [lo7]; omega
    | 3, _ => simp only [lo7]; omega
    | 4, _ => simp only [lo7]; omega
    | 5, _ => simp only [lo7]; omega
    | 6, _ => simp only [lo7]; omega
  · intro i hi
    match i, hi with
    | 0, _ => simp only [lo7]; omega
    | 1, _ => simp only [lo7]; omega
    | 2, _ => simp only [lo7]; omega
    | 3, _ => simp only [lo7]; omega
    | 4, _ => simp only [lo7]; omega
    | 5, _ => simp only [lo7]; omega
  · intro i hi
    match i, hi with
    | 0, _ => simp only [lo7]; omega
    | 1, _ => simp only [lo7]; omega
    | 2, _ => simp only [lo7]; omega
    | 3, _ => simp only [lo7]; omega
    | 4, _ => simp only [lo7]; omega
    | 5, _ => simp only [lo7]; omega
    | 6, _ => simp only [lo7]; omega
end Go.Proofs.YtfbfgljkiikabaaGreat
