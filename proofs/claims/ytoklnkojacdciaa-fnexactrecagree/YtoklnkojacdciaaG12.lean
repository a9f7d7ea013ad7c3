import Derived.Test.YtoklnkojacdciaaG11
namespace Go.Proofs.Ytoklnkojacdciaa
open Go.RowKit Go.Deep

theorem sizeRr : (Try.prog.info? 51).map (·.size) = some 18 := by kernel_rfl
theorem res_rr {P : Program} {fn : Func} {p : Tmp} {ty : TypeId} (h : fn.results = #[.cell p ty]) (tmps : Array Value) (w : World) (b o : Nat) (cs : List Value) (d : TypeDesc)
    (hp : tmps.getD p undef = .pointer (some ⟨b, o, none⟩)) (hc : w.rangeAt b o cs) (hu : P.underlying ty = some d) (hd : d.isRow = true) (hi : (P.info? ty).map (·.size) = some cs.length) :
    (results fn tmps).run P w = .ok (.agg cs.toArray) w := by
  have hp' : tmps[p]?.getD undef = .pointer (some ⟨b, o, none⟩) := by simpa using hp
  simp [results, h, hp', asAddr, run_loadVar_mid w b o ty cs d hc hu hd hi]
theorem sets_of {P : World → Prop} {lo b : Nat} (h : ∀ (w : World) (p : Addr) (u : Value), p.block < lo → P w → P (w.setCell p u)) (hb : b < lo) : ∀ (vs : List Value) (o : Nat) (w : World), P w → P (w.setCells b o vs)
  | [], _, _, hP => hP
  | v :: vs, o, w, hP => sets_of h hb vs (o + 1) _ (h w ⟨b, o, none⟩ v hb hP)

set_option maxRecDepth 20000 in
set_option maxHeartbeats 16000000 in
theorem toRr_c (lo : Nat) (cs : List Value) (U : Rr) (w : World) (h : RrC lo w cs U) (hn : RrSmall U) :
    Calls Try.prog 73 #[.agg cs.toArray] w
      fun e w' => ∃ cs', e = .returned (.agg cs'.toArray) ∧ Below w.heap.size w w' ∧ RrC w.heap.size w' cs' U := by
  obtain ⟨a0, k0, a1, k1, a2, k2, a3, k3, a4, k4, a5, k5, a6, k6, rfl, h⟩ := h
  show Calls Try.prog 73 #[.agg #[.int .i64 U.nu, .int .i64 U.of, .bool U.up, .int .i64 U.sf.pr, .int .i64 U.sf.kn, .slice a0 U.sf.sl.length k0, .int .i64 U.dk.pr, .int .i64 U.dk.kn, .slice a1 U.dk.sl.length k1, .slice a2 U.he.length k2, .slice a3 U.wi.length k3, .bool U.ld, .bool U.ty, .int .i64 U.ba, .slice a4 U.ye.length k4, .slice a5 U.be.length k5, .slice a6 U.ac.length k6, .int .i64 U.hd]] w _
  have HL := hide h
  obtain ⟨hn0, hn1, hn2, hn3, hn4, hn5, hn6⟩ := hn
  clear h
  go_enter Try.func73, Try.ntmps73
  go_wp2_with fail
  obtain ⟨wz, hwz, FX, FR, FO, HB⟩ : ∃ wz, wz = ((w.alloc (.cells #[.int .i64 U.nu, .int .i64 U.of, .bool U.up, .int .i64 U.sf.pr, .int .i64 U.sf.kn, .slice a0 U.sf.sl.length k0, .int .i64 U.dk.pr, .int .i64 U.dk.kn, .slice a1 U.dk.sl.length k1, .slice a2 U.he.length k2, .slice a3 U.wi.length k3, .bool U.ld, .bool U.ty, .int .i64 U.ba, .slice a4 U.ye.length k4, .slice a5 U.be.length k5, .slice a6 U.ac.length k6, .int .i64 U.hd] 97)).alloc (.cells #[.int .i64 0, .int .i64 0, .bool false, .int .i64 0, .int .i64 0, .slice none 0 0, .int .i64 0, .int .i64 0, .slice none 0 0, .slice none 0 0, .slice none 0 0, .bool false, .bool false, .int .i64 0, .slice none 0 0, .slice none 0 0, .slice none 0 0, .int .i64 0] 51)).alloc (.cells #[.int .i64 U.nu, .int .i64 U.of, .bool U.up, .int .i64 0, .int .i64 0, .slice none 0 0, .int .i64 0, .int .i64 0, .slice none 0 0, .slice none 0 0, .slice none 0 0, .bool false, .bool false, .int .i64 0, .slice none 0 0, .slice none 0 0, .slice none 0 0, .int .i64 0] 51) ∧
      Hid (Box wz w.heap.size #[.int .i64 U.nu, .int .i64 U.of, .bool U.up, .int .i64 U.sf.pr, .int .i64 U.sf.kn, .slice a0 U.sf.sl.length k0, .int .i64 U.dk.pr, .int .i64 U.dk.kn, .slice a1 U.dk.sl.length k1, .slice a2 U.he.length k2, .slice a3 U.wi.length k3, .bool U.ld, .bool U.ty, .int .i64 U.ba, .slice a4 U.ye.length k4, .slice a5 U.be.length k5, .slice a6 U.ac.length k6, .int .i64 U.hd]) ∧ Hid (Box wz (w.heap.size + 1) #[.int .i64 0, .int .i64 0, .bool false, .int .i64 0, .int .i64 0, .slice none 0 0, .int .i64 0, .int .i64 0, .slice none 0 0, .slice none 0 0, .slice none 0 0, .bool false, .bool false, .int .i64 0, .slice none 0 0, .slice none 0 0, .slice none 0 0, .int .i64 0]) ∧ Hid (Box wz (w.heap.size + 1 + 1) #[.int .i64 U.nu, .int .i64 U.of, .bool U.up, .int .i64 0, .int .i64 0, .slice none 0 0, .int .i64 0, .int .i64 0, .slice none 0 0, .slice none 0 0, .slice none 0 0, .bool false, .bool false, .int .i64 0, .slice none 0 0, .slice none 0 0, .slice none 0 0, .int .i64 0]) ∧ Hid (Below w.heap.size w wz) :=
    ⟨_, rfl, ((Box.new w _ _ _ rfl).on (one_al _ _)).on (one_al _ _), (Box.new _ _ _ _ (by simp)).on (one_al _ _), Box.new _ _ _ _ (by simp), ((one_al _ _).trans ((one_al _ _).mono (by simp))).trans ((one_al _ _).mono (by simp; omega))⟩
  rw [← hwz]
  clear hwz
  generalize wz = v0 at *
  have hz0 : w.heap.size + 3 ≤ v0.heap.size := by have := FO.out.lt; omega
  refine (toRd_c lo _ U.sf _ (⟨_, _, rfl, ⟨(HL.out.below HB.out).l0⟩⟩) hn0).mono ?_
  rintro e x0 ⟨_, rfl, hb, b0, m0, rfl, hs⟩
  have N0 := hide (hs.mono hz0)
  rw [show (rdL U.sf b0 m0).toArray = #[.int .i64 U.sf.pr, .int .i64 U.sf.kn, .slice b0 U.sf.sl.length m0] from rfl]
  replace FX := hide (FX.out.on hb)
  replace FR := hide (FR.out.on hb)
  replace FO := hide (FO.out.on hb)
  replace HB := hide (bt HB.out hb)
  clear hb hs hz0
  have g0 := FO.out.cell
  have g1 := FO.out.free
  have g2 := FX.out.cell
  go_wp2_with fail
  clear g0 g1 g2
  obtain ⟨v1, hwq, GX, GR, GO, GB, GN0⟩ : ∃ wq, wq = (((x0.setCell ⟨w.heap.size + 1 + 1, 3, none⟩ (.int .i64 U.sf.pr)).setCell ⟨w.heap.size + 1 + 1, 4, none⟩ (.int .i64 U.sf.kn)).setCell ⟨w.heap.size + 1 + 1, 5, none⟩ (.slice b0 U.sf.sl.length m0)) ∧ Hid (Box wq w.heap.size #[.int .i64 U.nu, .int .i64 U.of, .bool U.up, .int .i64 U.sf.pr, .int .i64 U.sf.kn, .slice a0 U.sf.sl.length k0, .int .i64 U.dk.pr, .int .i64 U.dk.kn, .slice a1 U.dk.sl.length k1, .slice a2 U.he.length k2, .slice a3 U.wi.length k3, .bool U.ld, .bool U.ty, .int .i64 U.ba, .slice a4 U.ye.length k4, .slice a5 U.be.length k5, .slice a6 U.ac.length k6, .int .i64 U.hd]) ∧ Hid (Box wq (w.heap.size + 1) #[.int .i64 0, .int .i64 0, .bool false, .int .i64 0, .int .i64 0, .slice none 0 0, .int .i64 0, .int .i64 0, .slice none 0 0, .slice none 0 0, .slice none 0 0, .bool false, .bool false, .int .i64 0, .slice none 0 0, .slice none 0 0, .slice none 0 0, .int .i64 0]) ∧ Hid (Box wq (w.heap.size + 1 + 1) #[.int .i64 U.nu, .int .i64 U.of, .bool U.up, .int .i64 U.sf.pr, .int .i64 U.sf.kn, .slice b0 U.sf.sl.length m0, .int .i64 0, .int .i64 0, .slice none 0 0, .slice none 0 0, .slice none 0 0, .bool false, .bool false, .int .i64 0, .slice none 0 0, .slice none 0 0, .slice none 0 0, .int .i64 0]) ∧ Hid (Below w.heap.size w wq) ∧ Hid (RdAt (w.heap.size + 3) wq (.slice b0 U.sf.sl.length m0) U.sf) :=
    ⟨_, rfl, (((FX.out.setFar (by simp only []; omega) _).setFar (by simp only []; omega) _).setFar (by simp only []; omega) _), (((FR.out.setFar (by simp only []; omega) _).setFar (by simp only []; omega) _).setFar (by simp only []; omega) _), (((FO.out.set (k := 3) (.int .i64 U.sf.pr) (by simp)).set (k := 4) (.int .i64 U.sf.kn) (by simp)).set (k := 5) (.slice b0 U.sf.sl.length m0) (by simp)), (((HB.out.setCell (by simp only []; omega) _).setCell (by simp only []; omega) _).setCell (by simp only []; omega) _), (((N0.out.set (by simp only []; omega) _).set (by simp only []; omega) _).set (by simp only []; omega) _)⟩
  rw [← hwq]
  clear hwq FX FR FO HB N0
  have FX := GX
  have FR := GR
  have FO := GO
  have HB := GB
  have N0 := GN0
  clear GX GR GO GB GN0
  have hz1 : w.heap.size + 3 ≤ v1.heap.size := by have := FO.out.lt; omega
  refine (toRd_c lo _ U.dk _ (⟨_, _, rfl, ⟨(HL.out.below HB.out).l1⟩⟩) hn1).mono ?_
  rintro e x1 ⟨_, rfl, hb, b1, m1, rfl, hs⟩
  have N1 := hide (hs.mono hz1)
  rw [show (rdL U.dk b1 m1).toArray = #[.int .i64 U.dk.pr, .int .i64 U.dk.kn, .slice b1 U.dk.sl.length m1] from rfl]
  replace FX := hide (FX.out.on hb)
  replace FR := hide (FR.out.on hb)
  replace FO := hide (FO.out.on hb)
  replace HB := hide (bt HB.out hb)
  replace N0 := hide (N0.out.below hb)
  clear hb hs hz1
  have g0 := FO.out.cell
  have g1 := FO.out.free
  have g2 := FX.out.cell
  go_wp2_with fail
  clear g0 g1 g2
  obtain ⟨v2, hwq, GX, GR, GO, GB, GN0, GN1⟩ : ∃ wq, wq = (((x1.setCell ⟨w.heap.size + 1 + 1, 6, none⟩ (.int .i64 U.dk.pr)).setCell ⟨w.heap.size + 1 + 1, 7, none⟩ (.int .i64 U.dk.kn)).setCell ⟨w.heap.size + 1 + 1, 8, none⟩ (.slice b1 U.dk.sl.length m1)) ∧ Hid (Box wq w.heap.size #[.int .i64 U.nu, .int .i64 U.of, .bool U.up, .int .i64 U.sf.pr, .int .i64 U.sf.kn, .slice a0 U.sf.sl.length k0, .int .i64 U.dk.pr, .int .i64 U.dk.kn, .slice a1 U.dk.sl.length k1, .slice a2 U.he.length k2, .slice a3 U.wi.length k3, .bool U.ld, .bool U.ty, .int .i64 U.ba, .slice a4 U.ye.length k4, .slice a5 U.be.length k5, .slice a6 U.ac.length k6, .int .i64 U.hd]) ∧ Hid (Box wq (w.heap.size + 1) #[.int .i64 0, .int .i64 0, .bool false, .int .i64 0, .int .i64 0, .slice none 0 0, .int .i64 0, .int .i64 0, .slice none 0 0, .slice none 0 0, .slice none 0 0, .bool false, .bool false, .int .i64 0, .slice none 0 0, .slice none 0 0, .slice none 0 0, .int .i64 0]) ∧ Hid (Box wq (w.heap.size + 1 + 1) #[.int .i64 U.nu, .int .i64 U.of, .bool U.up, .int .i64 U.sf.pr, .int .i64 U.sf.kn, .slice b0 U.sf.sl.length m0, .int .i64 U.dk.pr, .int .i64 U.dk.kn, .slice b1 U.dk.sl.length m1, .slice none 0 0, .slice none 0 0, .bool false, .bool false, .int .i64 0, .slice none 0 0, .slice none 0 0, .slice none 0 0, .int .i64 0]) ∧ Hid (Below w.heap.size w wq) ∧ Hid (RdAt (w.heap.size + 3) wq (.slice b0 U.sf.sl.length m0) U.sf) ∧ Hid (RdAt (w.heap.size + 3) wq (.slice b1 U.dk.sl.length m1) U.dk) :=
    ⟨_, rfl, (((FX.out.setFar (by simp only []; omega) _).setFar (by simp only []; omega) _).setFar (by simp only []; omega) _), (((FR.out.setFar (by simp only []; omega) _).setFar (by simp only []; omega) _).setFar (by simp only []; omega) _), (((FO.out.set (k := 6) (.int .i64 U.dk.pr) (by simp)).set (k := 7) (.int .i64 U.dk.kn) (by simp)).set (k := 8) (.slice b1 U.dk.sl.length m1) (by simp)), (((HB.out.setCell (by simp only []; omega) _).setCell (by simp only []; omega) _).setCell (by simp only []; omega) _), (((N0.out.set (by simp only []; omega) _).set (by simp only []; omega) _).set (by simp only []; omega) _), (((N1.out.set (by simp only []; omega) _).set (by simp only []; omega) _).set (by simp only []; omega) _)⟩
  rw [← hwq]
  clear hwq FX FR FO HB N0 N1
  have FX := GX
  have FR := GR
  have FO := GO
  have HB := GB
  have N0 := GN0
  have N1 := GN1
  clear GX GR GO GB GN0 GN1
  have hz2 : w.heap.size + 3 ≤ v2.heap.size := by have := FO.out.lt; omega
  refine (toRms_any lo _ U.he _ ((HL.out.below HB.out).l2) hn2).mono ?_
  rintro e x2 ⟨u, rfl, hb, hs⟩
  obtain ⟨b2, m2, rfl⟩ := hs.form
  have N2 := hide (hs.mono hz2)
  replace FX := hide (FX.out.on hb)
  replace FR := hide (FR.out.on hb)
  replace FO := hide (FO.out.on hb)
  replace HB := hide (bt HB.out hb)
  replace N0 := hide (N0.out.below hb)
  replace N1 := hide (N1.out.below hb)
  clear hb hs hz2
  have g0 := FO.out.cell
  have g1 := FO.out.free
  have g2 := FX.out.cell
  go_wp2_with fail
  clear g0 g1 g2
  obtain ⟨v3, hwq, GX, GR, GO, GB, GN0, GN1, GN2⟩ : ∃ wq, wq = (x2.setCell ⟨w.heap.size + 1 + 1, 9, none⟩ (.slice b2 U.he.length m2)) ∧ Hid (Box wq w.heap.size #[.int .i64 U.nu, .int .i64 U.of, .bool U.up, .int .i64 U.sf.pr, .int .i64 U.sf.kn, .slice a0 U.sf.sl.length k0, .int .i64 U.dk.pr, .int .i64 U.dk.kn, .slice a1 U.dk.sl.length k1, .slice a2 U.he.length k2, .slice a3 U.wi.length k3, .bool U.ld, .bool U.ty, .int .i64 U.ba, .slice a4 U.ye.length k4, .slice a5 U.be.length k5, .slice a6 U.ac.length k6, .int .i64 U.hd]) ∧ Hid (Box wq (w.heap.size + 1) #[.int .i64 0, .int .i64 0, .bool false, .int .i64 0, .int .i64 0, .slice none 0 0, .int .i64 0, .int .i64 0, .slice none 0 0, .slice none 0 0, .slice none 0 0, .bool false, .bool false, .int .i64 0, .slice none 0 0, .slice none 0 0, .slice none 0 0, .int .i64 0]) ∧ Hid (Box wq (w.heap.size + 1 + 1) #[.int .i64 U.nu, .int .i64 U.of, .bool U.up, .int .i64 U.sf.pr, .int .i64 U.sf.kn, .slice b0 U.sf.sl.length m0, .int .i64 U.dk.pr, .int .i64 U.dk.kn, .slice b1 U.dk.sl.length m1, .slice b2 U.he.length m2, .slice none 0 0, .bool false, .bool false, .int .i64 0, .slice none 0 0, .slice none 0 0, .slice none 0 0, .int .i64 0]) ∧ Hid (Below w.heap.size w wq) ∧ Hid (RdAt (w.heap.size + 3) wq (.slice b0 U.sf.sl.length m0) U.sf) ∧ Hid (RdAt (w.heap.size + 3) wq (.slice b1 U.dk.sl.length m1) U.dk) ∧ Hid (RmsAt (w.heap.size + 3) wq (.slice b2 U.he.length m2) U.he) :=
    ⟨_, rfl, (FX.out.setFar (by simp only []; omega) _), (FR.out.setFar (by simp only []; omega) _), (FO.out.set (k := 9) (.slice b2 U.he.length m2) (by simp)), (HB.out.setCell (by simp only []; omega) _), (N0.out.set (by simp only []; omega) _), (N1.out.set (by simp only []; omega) _), (N2.out.set (by simp only []; omega) _)⟩
  rw [← hwq]
  clear hwq FX FR FO HB N0 N1 N2
  have FX := GX
  have FR := GR
  have FO := GO
  have HB := GB
  have N0 := GN0
  have N1 := GN1
  have N2 := GN2
  clear GX GR GO GB GN0 GN1 GN2
  have hz3 : w.heap.size + 3 ≤ v3.heap.size := by have := FO.out.lt; omega
  refine (toRts_any lo _ U.wi _ ((HL.out.below HB.out).l3) hn3).mono ?_
  rintro e x3 ⟨u, rfl, hb, hs⟩
  obtain ⟨b3, m3, rfl⟩ := hs.form
  have N3 := hide (hs.mono hz3)
  replace FX := hide (FX.out.on hb)
  replace FR := hide (FR.out.on hb)
  replace FO := hide (FO.out.on hb)
  replace HB := hide (bt HB.out hb)
  replace N0 := hide (N0.out.below hb)
  replace N1 := hide (N1.out.below hb)
  replace N2 := hide (N2.out.below hb)
  clear hb hs hz3
  have g0 := FO.out.cell
  have g1 := FO.out.free
  have g2 := FX.out.cell
  go_wp2_with fail
  clear g0 g1 g2
  obtain ⟨v4, hwq, GX, GR, GO, GB, GN0, GN1, GN2, GN3⟩ : ∃ wq, wq = ((((x3.setCell ⟨w.heap.size + 1 + 1, 10, none⟩ (.slice b3 U.wi.length m3)).setCell ⟨w.heap.size + 1 + 1, 11, none⟩ (.bool U.ld)).setCell ⟨w.heap.size + 1 + 1, 12, none⟩ (.bool U.ty)).setCell ⟨w.heap.size + 1 + 1, 13, none⟩ (.int .i64 U.ba)) ∧ Hid (Box wq w.heap.size #[.int .i64 U.nu, .int .i64 U.of, .bool U.up, .int .i64 U.sf.pr, .int .i64 U.sf.kn, .slice a0 U.sf.sl.length k0, .int .i64 U.dk.pr, .int .i64 U.dk.kn, .slice a1 U.dk.sl.length k1, .slice a2 U.he.length k2, .slice a3 U.wi.length k3, .bool U.ld, .bool U.ty, .int .i64 U.ba, .slice a4 U.ye.length k4, .slice a5 U.be.length k5, .slice a6 U.ac.length k6, .int .i64 U.hd]) ∧ Hid (Box wq (w.heap.size + 1) #[.int .i64 0, .int .i64 0, .bool false, .int .i64 0, .int .i64 0, .slice none 0 0, .int .i64 0, .int .i64 0, .slice none 0 0, .slice none 0 0, .slice none 0 0, .bool false, .bool false, .int .i64 0, .slice none 0 0, .slice none 0 0, .slice none 0 0, .int .i64 0]) ∧ Hid (Box wq (w.heap.size + 1 + 1) #[.int .i64 U.nu, .int .i64 U.of, .bool U.up, .int .i64 U.sf.pr, .int .i64 U.sf.kn, .slice b0 U.sf.sl.length m0, .int .i64 U.dk.pr, .int .i64 U.dk.kn, .slice b1 U.dk.sl.length m1, .slice b2 U.he.length m2, .slice b3 U.wi.length m3, .bool U.ld, .bool U.ty, .int .i64 U.ba, .slice none 0 0, .slice none 0 0, .slice none 0 0, .int .i64 0]) ∧ Hid (Below w.heap.size w wq) ∧ Hid (RdAt (w.heap.size + 3) wq (.slice b0 U.sf.sl.length m0) U.sf) ∧ Hid (RdAt (w.heap.size + 3) wq (.slice b1 U.dk.sl.length m1) U.dk) ∧ Hid (RmsAt (w.heap.size + 3) wq (.slice b2 U.he.length m2) U.he) ∧ Hid (RtsAt (w.heap.size + 3) wq (.slice b3 U.wi.length m3) U.wi) :=
    ⟨_, rfl, ((((FX.out.setFar (by simp only []; omega) _).setFar (by simp only []; omega) _).setFar (by simp only []; omega) _).setFar (by simp only []; omega) _), ((((FR.out.setFar (by simp only []; omega) _).setFar (by simp only []; omega) _).setFar (by simp only []; omega) _).setFar (by simp only []; omega) _), ((((FO.out.set (k := 10) (.slice b3 U.wi.length m3) (by simp)).set (k := 11) (.bool U.ld) (by simp)).set (k := 12) (.bool U.ty) (by simp)).set (k := 13) (.int .i64 U.ba) (by simp)), ((((HB.out.setCell (by simp only []; omega) _).setCell (by simp only []; omega) _).setCell (by simp only []; omega) _).setCell (by simp only []; omega) _), ((((N0.out.set (by simp only []; omega) _).set (by simp only []; omega) _).set (by simp only []; omega) _).set (by simp only []; omega) _), ((((N1.out.set (by simp only []; omega) _).set (by simp only []; omega) _).set (by simp only []; omega) _).set (by simp only []; omega) _), ((((N2.out.set (by simp only []; omega) _).set (by simp only []; omega) _).set (by simp only []; omega) _).set (by simp only []; omega) _), ((((N3.out.set (by simp only []; omega) _).set (by simp only []; omega) _).set (by simp only []; omega) _).set (by simp only []; omega) _)⟩
  rw [← hwq]
  clear hwq FX FR FO HB N0 N1 N2 N3
  have FX := GX
  have FR := GR
  have FO := GO
  have HB := GB
  have N0 := GN0
  have N1 := GN1
  have N2 := GN2
  have N3 := GN3
  clear GX GR GO GB GN0 GN1 GN2 GN3
  have hz4 : w.heap.size + 3 ≤ v4.heap.size := by have := FO.out.lt; omega
  refine (toRis_any lo _ U.ye _ ((HL.out.below HB.out).l4) hn4).mono ?_
  rintro e x4 ⟨u, rfl, hb, hs⟩
  obtain ⟨b4, m4, rfl⟩ := hs.form
  have N4 := hide (hs.mono hz4)
  replace FX := hide (FX.out.on hb)
  replace FR := hide (FR.out.on hb)
  replace FO := hide (FO.out.on hb)
  replace HB := hide (bt HB.out hb)
  replace N0 := hide (N0.out.below hb)
  replace N1 := hide (N1.out.below hb)
  replace N2 := hide (N2.out.below hb)
  replace N3 := hide (N3.out.below hb)
  clear hb hs hz4
  have g0 := FO.out.cell
  have g1 := FO.out.free
  have g2 := FX.out.cell
  go_wp2_with fail
  clear g0 g1 g2
  obtain ⟨v5, hwq, GX, GR, GO, GB, GN0, GN1, GN2, GN3, GN4⟩ : ∃ wq, wq = (x4.setCell ⟨w.heap.size + 1 + 1, 14, none⟩ (.slice b4 U.ye.length m4)) ∧ Hid (Box wq w.heap.size #[.int .i64 U.nu, .int .i64 U.of, .bool U.up, .int .i64 U.sf.pr, .int .i64 U.sf.kn, .slice a0 U.sf.sl.length k0, .int .i64 U.dk.pr, .int .i64 U.dk.kn, .slice a1 U.dk.sl.length k1, .slice a2 U.he.length k2, .slice a3 U.wi.length k3, .bool U.ld, .bool U.ty, .int .i64 U.ba, .slice a4 U.ye.length k4, .slice a5 U.be.length k5, .slice a6 U.ac.length k6, .int .i64 U.hd]) ∧ Hid (Box wq (w.heap.size + 1) #[.int .i64 0, .int .i64 0, .bool false, .int .i64 0, .int .i64 0, .slice none 0 0, .int .i64 0, .int .i64 0, .slice none 0 0, .slice none 0 0, .slice none 0 0, .bool false, .bool false, .int .i64 0, .slice none 0 0, .slice none 0 0, .slice none 0 0, .int .i64 0]) ∧ Hid (Box wq (w.heap.size + 1 + 1) #[.int .i64 U.nu, .int .i64 U.of, .bool U.up, .int .i64 U.sf.pr, .int .i64 U.sf.kn, .slice b0 U.sf.sl.length m0, .int .i64 U.dk.pr, .int .i64 U.dk.kn, .slice b1 U.dk.sl.length m1, .slice b2 U.he.length m2, .slice b3 U.wi.length m3, .bool U.ld, .bool U.ty, .int .i64 U.ba, .slice b4 U.ye.length m4, .slice none 0 0, .slice none 0 0, .int .i64 0]) ∧ Hid (Below w.heap.size w wq) ∧ Hid (RdAt (w.heap.size + 3) wq (.slice b0 U.sf.sl.length m0) U.sf) ∧ Hid (RdAt (w.heap.size + 3) wq (.slice b1 U.dk.sl.length m1) U.dk) ∧ Hid (RmsAt (w.heap.size + 3) wq (.slice b2 U.he.length m2) U.he) ∧ Hid (RtsAt (w.heap.size + 3) wq (.slice b3 U.wi.length m3) U.wi) ∧ Hid (RisAt (w.heap.size + 3) wq (.slice b4 U.ye.length m4) U.ye) :=
    ⟨_, rfl, (FX.out.setFar (by simp only []; omega) _), (FR.out.setFar (by simp only []; omega) _), (FO.out.set (k := 14) (.slice b4 U.ye.length m4) (by simp)), (HB.out.setCell (by simp only []; omega) _), (N0.out.set (by simp only []; omega) _), (N1.out.set (by simp only []; omega) _), (N2.out.set (by simp only []; omega) _), (N3.out.set (by simp only []; omega) _), (N4.out.set (by simp only []; omega) _)⟩
  rw [← hwq]
  clear hwq FX FR FO HB N0 N1 N2 N3 N4
  have FX := GX
  have FR := GR
  have FO := GO
  have HB := GB
  have N0 := GN0
  have N1 := GN1
  have N2 := GN2
  have N3 := GN3
  have N4 := GN4
  clear GX GR GO GB GN0 GN1 GN2 GN3 GN4
  have hz5 : w.heap.size + 3 ≤ v5.heap.size := by have := FO.out.lt; omega
  refine (toRss_any lo _ U.be _ ((HL.out.below HB.out).l5) hn5).mono ?_
  rintro e x5 ⟨u, rfl, hb, hs⟩
  obtain ⟨b5, m5, rfl⟩ := hs.form
  have N5 := hide (hs.mono hz5)
  replace FX := hide (FX.out.on hb)
  replace FR := hide (FR.out.on hb)
  replace FO := hide (FO.out.on hb)
  replace HB := hide (bt HB.out hb)
  replace N0 := hide (N0.out.below hb)
  replace N1 := hide (N1.out.below hb)
  replace N2 := hide (N2.out.below hb)
  replace N3 := hide (N3.out.below hb)
  replace N4 := hide (N4.out.below hb)
  clear hb hs hz5
  have g0 := FO.out.cell
  have g1 := FO.out.free
  have g2 := FX.out.cell
  go_wp2_with fail
  clear g0 g1 g2
  obtain ⟨v6, hwq, GX, GR, GO, GB, GN0, GN1, GN2, GN3, GN4, GN5⟩ : ∃ wq, wq = (x5.setCell ⟨w.heap.size + 1 + 1, 15, none⟩ (.slice b5 U.be.length m5)) ∧ Hid (Box wq w.heap.size #[.int .i64 U.nu, .int .i64 U.of, .bool U.up, .int .i64 U.sf.pr, .int .i64 U.sf.kn, .slice a0 U.sf.sl.length k0, .int .i64 U.dk.pr, .int .i64 U.dk.kn, .slice a1 U.dk.sl.length k1, .slice a2 U.he.length k2, .slice a3 U.wi.length k3, .bool U.ld, .bool U.ty, .int .i64 U.ba, .slice a4 U.ye.length k4, .slice a5 U.be.length k5, .slice a6 U.ac.length k6, .int .i64 U.hd]) ∧ Hid (Box wq (w.heap.size + 1) #[.int .i64 0, .int .i64 0, .bool false, .int .i64 0, .int .i64 0, .slice none 0 0, .int .i64 0, .int .i64 0, .slice none 0 0, .slice none 0 0, .slice none 0 0, .bool false, .bool false, .int .i64 0, .slice none 0 0, .slice none 0 0, .slice none 0 0, .int .i64 0]) ∧ Hid (Box wq (w.heap.size + 1 + 1) #[.int .i64 U.nu, .int .i64 U.of, .bool U.up, .int .i64 U.sf.pr, .int .i64 U.sf.kn, .slice b0 U.sf.sl.length m0, .int .i64 U.dk.pr, .int .i64 U.dk.kn, .slice b1 U.dk.sl.length m1, .slice b2 U.he.length m2, .slice b3 U.wi.length m3, .bool U.ld, .bool U.ty, .int .i64 U.ba, .slice b4 U.ye.length m4, .slice b5 U.be.length m5, .slice none 0 0, .int .i64 0]) ∧ Hid (Below w.heap.size w wq) ∧ Hid (RdAt (w.heap.size + 3) wq (.slice b0 U.sf.sl.length m0) U.sf) ∧ Hid (RdAt (w.heap.size + 3) wq (.slice b1 U.dk.sl.length m1) U.dk) ∧ Hid (RmsAt (w.heap.size + 3) wq (.slice b2 U.he.length m2) U.he) ∧ Hid (RtsAt (w.heap.size + 3) wq (.slice b3 U.wi.length m3) U.wi) ∧ Hid (RisAt (w.heap.size + 3) wq (.slice b4 U.ye.length m4) U.ye) ∧ Hid (RssAt (w.heap.size + 3) wq (.slice b5 U.be.length m5) U.be) :=
    ⟨_, rfl, (FX.out.setFar (by simp only []; omega) _), (FR.out.setFar (by simp only []; omega) _), (FO.out.set (k := 15) (.slice b5 U.be.length m5) (by simp)), (HB.out.setCell (by simp only []; omega) _), (N0.out.set (by simp only []; omega) _), (N1.out.set (by simp only []; omega) _), (N2.out.set (by simp only []; omega) _), (N3.out.set (by simp only []; omega) _), (N4.out.set (by simp only []; omega) _), (N5.out.set (by simp only []; omega) _)⟩
  rw [← hwq]
  clear hwq FX FR FO HB N0 N1 N2 N3 N4 N5
  have FX := GX
  have FR := GR
  have FO := GO
  have HB := GB
  have N0 := GN0
  have N1 := GN1
  have N2 := GN2
  have N3 := GN3
  have N4 := GN4
  have N5 := GN5
  clear GX GR GO GB GN0 GN1 GN2 GN3 GN4 GN5
  have hz6 : w.heap.size + 3 ≤ v6.heap.size := by have := FO.out.lt; omega
  refine (toRas_any lo _ U.ac _ ((HL.out.below HB.out).l6) hn6).mono ?_
  rintro e x6 ⟨u, rfl, hb, hs⟩
  obtain ⟨b6, m6, rfl⟩ := hs.form
  have N6 := hide (hs.mono hz6)
  replace FX := hide (FX.out.on hb)
  replace FR := hide (FR.out.on hb)
  replace FO := hide (FO.out.on hb)
  replace HB := hide (bt HB.out hb)
  replace N0 := hide (N0.out.below hb)
  replace N1 := hide (N1.out.below hb)
  replace N2 := hide (N2.out.below hb)
  replace N3 := hide (N3.out.below hb)
  replace N4 := hide (N4.out.below hb)
  replace N5 := hide (N5.out.below hb)
  clear hb hs hz6
  obtain ⟨ll, hll⟩ : ∃ ll, ll = rrL U b0 m0 b1 m1 b2 m2 b3 m3 b4 m4 b5 m5 b6 m6 := ⟨_, rfl⟩
  have HLL := hide hll
  have h18 : ll.toArray.size = 18 := by rw [hll]; rfl
  have FO2 : Hid (Box ((x6.setCell ⟨w.heap.size + 1 + 1, 16, none⟩ (.slice b6 U.ac.length m6)).setCell ⟨w.heap.size + 1 + 1, 17, none⟩ (.int .i64 U.hd)) (w.heap.size + 1 + 1) ll.toArray) := by unfold Hid; rw [hll]; exact (FO.out.set (k := 16) (.slice b6 U.ac.length m6) (by simp)).set (k := 17) (.int .i64 U.hd) (by simp)
  have FR2 := hide ((FR.out.setFar (p := ⟨w.heap.size + 1 + 1, 16, none⟩) (by simp only []; omega) (.slice b6 U.ac.length m6)).setFar (p := ⟨w.heap.size + 1 + 1, 17, none⟩) (by simp only []; omega) (.int .i64 U.hd))
  have HRA : Hid (World.rangeAt ((x6.setCell ⟨w.heap.size + 1 + 1, 16, none⟩ (.slice b6 U.ac.length m6)).setCell ⟨w.heap.size + 1 + 1, 17, none⟩ (.int .i64 U.hd)) (w.heap.size + 1 + 1) 0 ll) := FO2.out.range rfl
  have HTH : Hid (World.there ((x6.setCell ⟨w.heap.size + 1 + 1, 16, none⟩ (.slice b6 U.ac.length m6)).setCell ⟨w.heap.size + 1 + 1, 17, none⟩ (.int .i64 U.hd)) (w.heap.size + 1) 0 ll.toArray.size) := by unfold Hid; rw [h18]; exact FR2.out.there rfl
  have HS : Hid ((Try.prog.info? 51).map (·.size) = some ll.length) := by unfold Hid; rw [hll]; exact sizeRr
  have HSA : Hid ((Try.prog.info? 51).map (·.size) = some ll.toArray.size) := by unfold Hid; rw [hll]; exact sizeRr
  have HON : Hid (ll.toArray.all (·.oneCell') = true) := by unfold Hid; rw [hll]; simp [rrL, Value.oneCell']
  have g0 := FO.out.cell 16
  have g1 := FO.out.cell 17
  have g2 := FO.out.free 16
  have g3 := FO.out.free 17
  have g4 : x6.cell? ⟨w.heap.size, 17, none⟩ = some (.int .i64 U.hd) := FX.out.cell 17
  clear hll
  go_wp2_with (first
    | (refine wpList_load_mid rfl 51 (.tmp 3) rfl (w.heap.size + 1 + 1) 0 rfl ll _ HRA.out Try.underlying51 rfl HS.out ?_)
    | (refine wpList_store_mid rfl 51 (.tmp 2) (.tmp 53) rfl (w.heap.size + 1) 0 ll.toArray rfl rfl HTH.out HSA.out HON.out ?_; refine Hid.out ?_))
  clear g0 g1 g2 g3 g4
  generalize hW : World.setCells _ _ _ _ = W9
  have FR9 : Hid (Box W9 (w.heap.size + 1) ll.toArray) := by unfold Hid; rw [← hW]; exact FR2.out.full (cs' := ll.toArray) (by rw [h18]; rfl)
  have hlt : w.heap.size + 1 + 1 < w.heap.size + 3 := by omega
  have hlt1 : w.heap.size + 1 < w.heap.size + 3 := by omega
  have HB9 : Hid (Below w.heap.size w W9) := by unfold Hid; rw [← hW]; exact Below.sets (by omega) _ _ ((HB.out.setCell (by simp only []; omega) _).setCell (by simp only []; omega) _)
  have M0 : Hid (RssAt (w.heap.size + 3) W9 (.slice b0 U.sf.sl.length m0) U.sf.sl) := by unfold Hid; rw [← hW]; exact sets_of (P := fun W => RssAt (w.heap.size + 3) W (.slice b0 U.sf.sl.length m0) U.sf.sl) (fun _ _ u hp h => h.set hp u) hlt1 _ _ _ ((N0.out.l0.set hlt _).set hlt _)
  have M1 : Hid (RssAt (w.heap.size + 3) W9 (.slice b1 U.dk.sl.length m1) U.dk.sl) := by unfold Hid; rw [← hW]; exact sets_of (P := fun W => RssAt (w.heap.size + 3) W (.slice b1 U.dk.sl.length m1) U.dk.sl) (fun _ _ u hp h => h.set hp u) hlt1 _ _ _ ((N1.out.l0.set hlt _).set hlt _)
  have M2 : Hid (RmsAt (w.heap.size + 3) W9 (.slice b2 U.he.length m2) U.he) := by unfold Hid; rw [← hW]; exact sets_of (P := fun W => RmsAt (w.heap.size + 3) W (.slice b2 U.he.length m2) U.he) (fun _ _ u hp h => h.set hp u) hlt1 _ _ _ ((N2.out.set hlt _).set hlt _)
  have M3 : Hid (RtsAt (w.heap.size + 3) W9 (.slice b3 U.wi.length m3) U.wi) := by unfold Hid; rw [← hW]; exact sets_of (P := fun W => RtsAt (w.heap.size + 3) W (.slice b3 U.wi.length m3) U.wi) (fun _ _ u hp h => h.set hp u) hlt1 _ _ _ ((N3.out.set hlt _).set hlt _)
  have M4 : Hid (RisAt (w.heap.size + 3) W9 (.slice b4 U.ye.length m4) U.ye) := by unfold Hid; rw [← hW]; exact sets_of (P := fun W => RisAt (w.heap.size + 3) W (.slice b4 U.ye.length m4) U.ye) (fun _ _ u hp h => h.set hp u) hlt1 _ _ _ ((N4.out.set hlt _).set hlt _)
  have M5 : Hid (RssAt (w.heap.size + 3) W9 (.slice b5 U.be.length m5) U.be) := by unfold Hid; rw [← hW]; exact sets_of (P := fun W => RssAt (w.heap.size + 3) W (.slice b5 U.be.length m5) U.be) (fun _ _ u hp h => h.set hp u) hlt1 _ _ _ ((N5.out.set hlt _).set hlt _)
  have M6 : Hid (RasAt (w.heap.size + 3) W9 (.slice b6 U.ac.length m6) U.ac) := by unfold Hid; rw [← hW]; exact sets_of (P := fun W => RasAt (w.heap.size + 3) W (.slice b6 U.ac.length m6) U.ac) (fun _ _ u hp h => h.set hp u) hlt1 _ _ _ ((N6.out.set hlt _).set hlt _)
  clear hW
  refine hide ?_
  go_wp2
  exact bodyPost_ret (v := .agg ll.toArray) (res_rr (p := 2) (ty := 51) Try.results73 _ _ (w.heap.size + 1) 0 ll _ rfl (FR9.out.range rfl) Try.underlying51 rfl HS.out) rfl ⟨ll, rfl, HB9.out, b0, m0, b1, m1, b2, m2, b3, m3, b4, m4, b5, m5, b6, m6, HLL.out, ⟨M0.out.mono (by omega), M1.out.mono (by omega), M2.out.mono (by omega), M3.out.mono (by omega), M4.out.mono (by omega), M5.out.mono (by omega), M6.out.mono (by omega)⟩⟩
end Go.Proofs.Ytoklnkojacdciaa
