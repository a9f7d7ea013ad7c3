import Derived.Test.YtfbfgljkiikabaaGreatV38
import Derived.Test.YtfbfgljkiikabaaGreatV40
namespace Go.Proofs.YtfbfgljkiikabaaGreat
open Go.RowKit Go.Deep

structure H7 (β : Nat) (p0 k0 s0 p1 k1 s1 s5 : Value) (W : World) : Prop where
  c3 : W.cell? ⟨β, 3, none⟩ = some p0
  c4 : W.cell? ⟨β, 4, none⟩ = some k0
  c5 : W.cell? ⟨β, 5, none⟩ = some s0
  c6 : W.cell? ⟨β, 6, none⟩ = some p1
  c7 : W.cell? ⟨β, 7, none⟩ = some k1
  c8 : W.cell? ⟨β, 8, none⟩ = some s1
  c15 : W.cell? ⟨β, 15, none⟩ = some s5
theorem H7.below {β : Nat} {p0 k0 s0 p1 k1 s1 s5 : Value} {W W' : World} (h : H7 β p0 k0 s0 p1 k1 s1 s5 W) (hb : Below W.heap.size W W') (hl : β < W.heap.size) : H7 β p0 k0 s0 p1 k1 s1 s5 W' :=
  ⟨(hb.cell (p := ⟨β, 3, none⟩) hl).trans h.c3, (hb.cell (p := ⟨β, 4, none⟩) hl).trans h.c4, (hb.cell (p := ⟨β, 5, none⟩) hl).trans h.c5, (hb.cell (p := ⟨β, 6, none⟩) hl).trans h.c6, (hb.cell (p := ⟨β, 7, none⟩) hl).trans h.c7, (hb.cell (p := ⟨β, 8, none⟩) hl).trans h.c8, (hb.cell (p := ⟨β, 15, none⟩) hl).trans h.c15⟩
set_option maxRecDepth 20000 in
set_option maxHeartbeats 16000000 in
theorem copyI_any (lo : Nat) (cs : List Value) (U : Rr) (w : World) (h : RrC lo w cs U) (hn : RrSmall U) :
    Calls Tryz.prog 42 #[.agg cs.toArray] w
      fun e w' => ∃ b0 m0 b1 m1 b2 m2 b3 m3 b4 m4 b5 m5 b6 m6 c, e = .returned (.agg (rrL U b0 m0 b1 m1 b2 m2 b3 m3 b4 m4 b5 m5 b6 m6).toArray) ∧ Below w.heap.size w w' ∧ Cpn w' w.heap.size c (.slice b0 U.sf.sl.length m0) (.slice b1 U.dk.sl.length m1) (.slice b2 U.he.length m2) (.slice b3 U.wi.length m3) (.slice b4 U.ye.length m4) (.slice b5 U.be.length m5) (.slice b6 U.ac.length m6) U := by
  obtain ⟨a0, k0, a1, k1, a2, k2, a3, k3, a4, k4, a5, k5, a6, k6, rfl, h⟩ := h
  have HL := hide h
  obtain ⟨hn0, hn1, hn2, hn3, hn4, hn5, hn6⟩ := hn
  have HN2 := hide hn2
  have HN6 := hide hn6
  have q0 := hn0.1
  have q1 := hn1.1
  have q3 := hn3
  have q4 := hn4
  have q5 := hn5.1
  unfold RtsSmall at q3
  unfold RisSmall at q4
  clear h hn0 hn1 hn2 hn3 hn4 hn5 hn6
  obtain ⟨cs, hcs⟩ : ∃ cs, cs = rrL U a0 k0 a1 k1 a2 k2 a3 k3 a4 k4 a5 k5 a6 k6 := ⟨_, rfl⟩
  rw [← hcs]
  go_enter Tryz.func42, Tryz.ntmps42
  have HCS := hide hcs
  clear hcs
  go_wp2_with fail
  obtain ⟨v0, hv0, FB, RB, HB⟩ : ∃ wz, wz = (w.alloc (.cells cs.toArray 41)).alloc (.cells #[.int .i64 0, .int .i64 0, .bool false, .int .i64 0, .int .i64 0, .slice none 0 0, .int .i64 0, .int .i64 0, .slice none 0 0, .slice none 0 0, .slice none 0 0, .bool false, .bool false, .int .i64 0, .slice none 0 0, .slice none 0 0, .slice none 0 0, .int .i64 0] 41) ∧
      Hid (Box wz w.heap.size (rrL U a0 k0 a1 k1 a2 k2 a3 k3 a4 k4 a5 k5 a6 k6).toArray) ∧ Hid (Box wz (w.heap.size + 1) #[.int .i64 0, .int .i64 0, .bool false, .int .i64 0, .int .i64 0, .slice none 0 0, .int .i64 0, .int .i64 0, .slice none 0 0, .slice none 0 0, .slice none 0 0, .bool false, .bool false, .int .i64 0, .slice none 0 0, .slice none 0 0, .slice none 0 0, .int .i64 0]) ∧ Hid (Below w.heap.size w wz) :=
    ⟨_, rfl, by unfold Hid; rw [← HCS.out]; exact (Box.new w _ _ _ rfl).on (one_al _ _), Box.new _ _ _ _ (by simp), (one_al _ _).trans ((one_al _ _).mono (by simp))⟩
  rw [← hv0]
  clear hv0
  have hz0 : w.heap.size + 2 ≤ v0.heap.size := by have := RB.out.lt; omega
  have g3 : v0.cell? ⟨w.heap.size, 3, none⟩ = some (.int .i64 U.sf.pr) := FB.out.cell 3
  have g4 : v0.cell? ⟨w.heap.size, 4, none⟩ = some (.int .i64 U.sf.kn) := FB.out.cell 4
  have g5 : v0.cell? ⟨w.heap.size, 5, none⟩ = some (.slice a0 U.sf.sl.length k0) := FB.out.cell 5
  have g6 : v0.cell? ⟨w.heap.size, 6, none⟩ = some (.int .i64 U.dk.pr) := FB.out.cell 6
  have g7 : v0.cell? ⟨w.heap.size, 7, none⟩ = some (.int .i64 U.dk.kn) := FB.out.cell 7
  have g8 : v0.cell? ⟨w.heap.size, 8, none⟩ = some (.slice a1 U.dk.sl.length k1) := FB.out.cell 8
  have g15 : v0.cell? ⟨w.heap.size, 15, none⟩ = some (.slice a5 U.be.length k5) := FB.out.cell 15
  refine Code.wp_mono NoPanic.imp ?_
  refine wp_region_B (S := H7 w.heap.size (.int .i64 U.sf.pr) (.int .i64 U.sf.kn) (.slice a0 U.sf.sl.length k0) (.int .i64 U.dk.pr) (.int .i64 U.dk.kn) (.slice a1 U.dk.sl.length k1) (.slice a5 U.be.length k5)) [10, 11, 12, 13, 14] (by kernel_rfl) ⟨g3, g4, g5, g6, g7, g8, g15⟩ (fun hHeld => ?_)
  refine wpAnyB_take [1, 2, 5, 8, 9, 10, 11, 12, 13, 14] (i := 0) (v := .pointer (some ⟨w.heap.size, 3, none⟩)) rfl (by kernel_rfl) (by kernel_rfl) (by kernel_rfl) (by kernel_rfl) (fun _ _ _ h => h) (Or.inl ⟨by rfl, fun W hW => by obtain ⟨h1, h2, h3, h4, h5, h6, h7⟩ := hW; go_simp⟩) hHeld ?_
  try simp only [Act.put, List.getElem_toArray, List.getElem_cons_zero, List.setIfInBounds_toArray, List.set_cons_zero, List.set_cons_succ]
  refine wpAnyB_take [2, 5, 8, 9, 10, 11, 12, 13, 14] (i := 1) (v := .agg #[.int .i64 U.sf.pr, .int .i64 U.sf.kn, .slice a0 U.sf.sl.length k0]) rfl (by kernel_rfl) (by kernel_rfl) (by kernel_rfl) (by kernel_rfl) (fun _ _ _ h => h) (Or.inl ⟨by rfl, fun W hW => by obtain ⟨h1, h2, h3, h4, h5, h6, h7⟩ := hW; go_simp⟩) hHeld ?_
  try simp only [Act.put, List.getElem_toArray, List.getElem_cons_succ, List.getElem_cons_zero, List.setIfInBounds_toArray, List.set_cons_zero, List.set_cons_succ]
  refine wpAnyB_take [4, 5, 8, 9, 10, 11, 12, 13, 14] (i := 3) (v := .pointer (some ⟨w.heap.size, 6, none⟩)) rfl (by kernel_rfl) (by kernel_rfl) (by kernel_rfl) (by kernel_rfl) (fun _ _ _ h => h) (Or.inl ⟨by rfl, fun W hW => by obtain ⟨h1, h2, h3, h4, h5, h6, h7⟩ := hW; go_simp⟩) hHeld ?_
  try simp only [Act.put, List.getElem_toArray, List.getElem_cons_succ, List.getElem_cons_zero, List.setIfInBounds_toArray, List.set_cons_zero, List.set_cons_succ]
  refine wpAnyB_take [5, 8, 9, 10, 11, 12, 13, 14] (i := 4) (v := .agg #[.int .i64 U.dk.pr, .int .i64 U.dk.kn, .slice a1 U.dk.sl.length k1]) rfl (by kernel_rfl) (by kernel_rfl) (by kernel_rfl) (by kernel_rfl) (fun _ _ _ h => h) (Or.inl ⟨by rfl, fun W hW => by obtain ⟨h1, h2, h3, h4, h5, h6, h7⟩ := hW; go_simp⟩) hHeld ?_
  try simp only [Act.put, List.getElem_toArray, List.getElem_cons_succ, List.getElem_cons_zero, List.setIfInBounds_toArray, List.set_cons_zero, List.set_cons_succ]
  refine wpAnyB_take [7, 8, 9, 10, 11, 12, 13, 14] (i := 6) (v := .pointer (some ⟨w.heap.size, 15, none⟩)) rfl (by kernel_rfl) (by kernel_rfl) (by kernel_rfl) (by kernel_rfl) (fun _ _ _ h => h) (Or.inl ⟨by rfl, fun W hW => by obtain ⟨h1, h2, h3, h4, h5, h6, h7⟩ := hW; go_simp⟩) hHeld ?_
  try simp only [Act.put, List.getElem_toArray, List.getElem_cons_succ, List.getElem_cons_zero, List.setIfInBounds_toArray, List.set_cons_zero, List.set_cons_succ]
  refine wpAnyB_take [8, 9, 10, 11, 12, 13, 14] (i := 7) (v := .slice a5 U.be.length k5) rfl (by kernel_rfl) (by kernel_rfl) (by kernel_rfl) (by kernel_rfl) (fun _ _ _ h => h) (Or.inl ⟨by rfl, fun W hW => by obtain ⟨h1, h2, h3, h4, h5, h6, h7⟩ := hW; go_simp⟩) hHeld ?_
  try simp only [Act.put, List.getElem_toArray, List.getElem_cons_succ, List.getElem_cons_zero, List.setIfInBounds_toArray, List.set_cons_zero, List.set_cons_succ]
  refine wpAnyB_one (i := 2) (by kernel_rfl) rfl (fun K hK => ?_)
  go_simp
  refine (copyDk_any lo U.sf _ _ _ ((HL.out.below HB.out).l0.below ((Below.refl _ _).drew)) q0).mono ?_
  rintro e x0 ⟨b0, m0, rfl, hb, hs⟩
  have hx0 : v0.heap.size ≤ x0.heap.size := hb.size
  have hHn := hHeld.below hb (by have := FB.out.lt; exact this)
  replace hb : Below v0.heap.size v0 x0 := ((Below.refl _ _).drew).trans hb
  replace FB := hide (FB.out.on hb)
  replace RB := hide (RB.out.on hb)
  replace HB := hide (bt HB.out hb)
  have N0 : Hid (NRow rsL 2 x0 v0.heap.size x0.heap.size (.slice b0 U.sf.sl.length m0) U.sf.sl) := hs
  clear hb hs
  refine hK.out _ _ (fun _ => hHn) (fun hHx => ?_)
  clear hHeld hHn
  have hHeld := hHx (by decide)
  clear hK K hHx
  try simp only [Act.put, List.getElem_toArray, List.getElem_cons_succ, List.getElem_cons_zero, List.setIfInBounds_toArray, List.set_cons_zero, List.set_cons_succ]
  refine wpAnyB_take [10, 11, 12, 13, 14] (i := 9) (v := .pointer (some ⟨w.heap.size, 3, none⟩)) rfl (by kernel_rfl) (by kernel_rfl) (by kernel_rfl) (by kernel_rfl) (fun _ _ _ h => h) (Or.inl ⟨by rfl, fun W hW => by obtain ⟨h1, h2, h3, h4, h5, h6, h7⟩ := hW; go_simp⟩) hHeld ?_
  try simp only [Act.put, List.getElem_toArray, List.getElem_cons_succ, List.getElem_cons_zero, List.setIfInBounds_toArray, List.set_cons_zero, List.set_cons_succ]
  refine wpAnyB_one (i := 5) (by kernel_rfl) rfl (fun K hK => ?_)
  go_simp
  refine (copyDk_any lo U.dk _ _ _ ((HL.out.below HB.out).l1) q1).mono ?_
  rintro e x1 ⟨b1, m1, rfl, hb, hs⟩
  have hx1 : x0.heap.size ≤ x1.heap.size := hb.size
  have hHn := hHeld.below hb (by have := FB.out.lt; exact this)
  replace hb : Below x0.heap.size x0 x1 := hb
  replace FB := hide (FB.out.on hb)
  replace RB := hide (RB.out.on hb)
  replace HB := hide (bt HB.out hb)
  replace N0 := hide (N0.out.below hb)
  have N1 : Hid (NRow rsL 2 x1 x0.heap.size x1.heap.size (.slice b1 U.dk.sl.length m1) U.dk.sl) := hs
  clear hb hs
  refine hK.out _ _ (fun _ => hHn) (fun hHx => ?_)
  clear hHeld hHn
  have hHeld := hHx (by decide)
  clear hK K hHx
  try simp only [Act.put, List.getElem_toArray, List.getElem_cons_succ, List.getElem_cons_zero, List.setIfInBounds_toArray, List.set_cons_zero, List.set_cons_succ]
  refine wpAnyB_one (i := 8) (by kernel_rfl) rfl (fun K hK => ?_)
  go_simp
  refine (copySl_any lo _ U.be _ ((HL.out.below HB.out).l5) q5).mono ?_
  rintro e x5 ⟨u5, rfl, hb, hs⟩
  obtain ⟨b5, m5, rfl⟩ := hs.form
  have hx5 : x1.heap.size ≤ x5.heap.size := hb.size
  have hHn := hHeld.below hb (by have := FB.out.lt; exact this)
  replace hb : Below x1.heap.size x1 x5 := hb
  replace FB := hide (FB.out.on hb)
  replace RB := hide (RB.out.on hb)
  replace HB := hide (bt HB.out hb)
  replace N0 := hide (N0.out.below hb)
  replace N1 := hide (N1.out.below hb)
  have N5 : Hid (NRow rsL 2 x5 x1.heap.size x5.heap.size (.slice b5 U.be.length m5) U.be) := hs
  clear hb hs
  refine hK.out _ _ (fun _ => hHn) (fun hHx => ?_)
  clear hHeld hHn
  have hHeld := hHx (by decide)
  clear hK K hHx
  try simp only [Act.put, List.getElem_toArray, List.getElem_cons_succ, List.getElem_cons_zero, List.setIfInBounds_toArray, List.set_cons_zero, List.set_cons_succ]
  clear hHeld
  have z3 : x5.cell? ⟨w.heap.size, 3, none⟩ = some (.int .i64 U.sf.pr) := FB.out.cell 3
  have z4 : x5.cell? ⟨w.heap.size, 4, none⟩ = some (.int .i64 U.sf.kn) := FB.out.cell 4
  have z5 : x5.cell? ⟨w.heap.size, 5, none⟩ = some (.slice a0 U.sf.sl.length k0) := FB.out.cell 5
  have z6 : x5.cell? ⟨w.heap.size, 6, none⟩ = some (.int .i64 U.dk.pr) := FB.out.cell 6
  have z7 : x5.cell? ⟨w.heap.size, 7, none⟩ = some (.int .i64 U.dk.kn) := FB.out.cell 7
  have z8 : x5.cell? ⟨w.heap.size, 8, none⟩ = some (.slice a1 U.dk.sl.length k1) := FB.out.cell 8
  have z15 : x5.cell? ⟨w.heap.size, 15, none⟩ = some (.slice a5 U.be.length k5) := FB.out.cell 15
  have zf := FB.out.free
  refine wpAnyB_one (i := 10) (by kernel_rfl) rfl (fun K hK => ?_)
  go_simp
  refine hK.out _ _ (fun h => absurd (by decide) h) (fun _ => ?_)
  clear hK K
  try simp only [Act.put, List.getElem_toArray, List.getElem_cons_succ, List.getElem_cons_zero, List.setIfInBounds_toArray, List.set_cons_zero, List.set_cons_succ]
  refine wpAnyB_one (i := 11) (by kernel_rfl) rfl (fun K hK => ?_)
  go_simp
  refine hK.out _ _ (fun h => absurd (by decide) h) (fun _ => ?_)
  clear hK K
  try simp only [Act.put, List.getElem_toArray, List.getElem_cons_succ, List.getElem_cons_zero, List.setIfInBounds_toArray, List.set_cons_zero, List.set_cons_succ]
  refine wpAnyB_one (i := 12) (by kernel_rfl) rfl (fun K hK => ?_)
  go_simp
  refine hK.out _ _ (fun h => absurd (by decide) h) (fun _ => ?_)
  clear hK K
  try simp only [Act.put, List.getElem_toArray, List.getElem_cons_succ, List.getElem_cons_zero, List.setIfInBounds_toArray, List.set_cons_zero, List.set_cons_succ]
  refine wpAnyB_one (i := 13) (by kernel_rfl) rfl (fun K hK => ?_)
  go_simp
  refine hK.out _ _ (fun h => absurd (by decide) h) (fun _ => ?_)
  clear hK K
  try simp only [Act.put, List.getElem_toArray, List.getElem_cons_succ, List.getElem_cons_zero, List.setIfInBounds_toArray, List.set_cons_zero, List.set_cons_succ]
  refine wpAnyB_one (i := 14) (by kernel_rfl) rfl (fun K hK => ?_)
  go_simp
  refine hK.out _ _ (fun h => absurd (by decide) h) (fun _ => ?_)
  clear hK K
  try simp only [Act.put, List.getElem_toArray, List.getElem_cons_succ, List.getElem_cons_zero, List.setIfInBounds_toArray, List.set_cons_zero, List.set_cons_succ]
  refine wpAnyB_done (by kernel_rfl) ?_ _
  refine NoPanic.normal ?_
  clear z3 z4 z5 z6 z7 z8 z15 zf g3 g4 g5 g6 g7 g8 g15
  obtain ⟨v2, hwq, GF, GR, GB, GN0, GN1, GN5⟩ : ∃ wq, wq = (((((((x5.setCell ⟨w.heap.size, 3, none⟩ (.int .i64 U.sf.pr)).setCell ⟨w.heap.size, 4, none⟩ (.int .i64 U.sf.kn)).setCell ⟨w.heap.size, 5, none⟩ (.slice b0 U.sf.sl.length m0)).setCell ⟨w.heap.size, 6, none⟩ (.int .i64 U.dk.pr)).setCell ⟨w.heap.size, 7, none⟩ (.int .i64 U.dk.kn)).setCell ⟨w.heap.size, 8, none⟩ (.slice b1 U.dk.sl.length m1)).setCell ⟨w.heap.size, 15, none⟩ (.slice b5 U.be.length m5)) ∧ Hid (Box wq w.heap.size (rrL U b0 m0 b1 m1 a2 k2 a3 k3 a4 k4 b5 m5 a6 k6).toArray) ∧ Hid (Box wq (w.heap.size + 1) #[.int .i64 0, .int .i64 0, .bool false, .int .i64 0, .int .i64 0, .slice none 0 0, .int .i64 0, .int .i64 0, .slice none 0 0, .slice none 0 0, .slice none 0 0, .bool false, .bool false, .int .i64 0, .slice none 0 0, .slice none 0 0, .slice none 0 0, .int .i64 0]) ∧ Hid (Below w.heap.size w wq) ∧ Hid (NRow rsL 2 wq v0.heap.size x0.heap.size (.slice b0 U.sf.sl.length m0) U.sf.sl) ∧ Hid (NRow rsL 2 wq x0.heap.size x1.heap.size (.slice b1 U.dk.sl.length m1) U.dk.sl) ∧ Hid (NRow rsL 2 wq x1.heap.size x5.heap.size (.slice b5 U.be.length m5) U.be) :=
    ⟨_, rfl, (((((((FB.out.set (k := 3) (.int .i64 U.sf.pr) (by show 3 < 18; omega)).set (k := 4) (.int .i64 U.sf.kn) (by show 4 < 18; omega)).set (k := 5) (.slice b0 U.sf.sl.length m0) (by show 5 < 18; omega)).set (k := 6) (.int .i64 U.dk.pr) (by show 6 < 18; omega)).set (k := 7) (.int .i64 U.dk.kn) (by show 7 < 18; omega)).set (k := 8) (.slice b1 U.dk.sl.length m1) (by show 8 < 18; omega)).set (k := 15) (.slice b5 U.be.length m5) (by show 15 < 18; omega)), (((((((RB.out.setFar (by simp only []; omega) _).setFar (by simp only []; omega) _).setFar (by simp only []; omega) _).setFar (by simp only []; omega) _).setFar (by simp only []; omega) _).setFar (by simp only []; omega) _).setFar (by simp only []; omega) _), (((((((HB.out.setCell (by simp only []; omega) _).setCell (by simp only []; omega) _).setCell (by simp only []; omega) _).setCell (by simp only []; omega) _).setCell (by simp only []; omega) _).setCell (by simp only []; omega) _).setCell (by simp only []; omega) _), (((((((N0.out.set (by simp only []; omega) _).set (by simp only []; omega) _).set (by simp only []; omega) _).set (by simp only []; omega) _).set (by simp only []; omega) _).set (by simp only []; omega) _).set (by simp only []; omega) _), (((((((N1.out.set (by simp only []; omega) _).set (by simp only []; omega) _).set (by simp only []; omega) _).set (by simp only []; omega) _).set (by simp only []; omega) _).set (by simp only []; omega) _).set (by simp only []; omega) _), (((((((N5.out.set (by simp only []; omega) _).set (by simp only []; omega) _).set (by simp only []; omega) _).set (by simp only []; omega) _).set (by simp only []; omega) _).set (by simp only []; omega) _).set (by simp only []; omega) _)⟩
  have hv2 : v2.heap.size = x5.heap.size := by rw [hwq]; simp [World.setCell]
  rw [← hwq]
  clear hwq FB RB HB N0 N1 N5
  have FB := GF
  have RB := GR
  have HB := GB
  have N0 := GN0
  have N1 := GN1
  have N5 := GN5
  clear GF GR GB GN0 GN1 GN5
  have g9 : v2.cell? ⟨w.heap.size, 9, none⟩ = some (.slice a2 U.he.length k2) := FB.out.cell 9
  go_wp2_with fail
  clear g9
  refine (eachMsg_any lo _ U.he _ (HL.out.below HB.out).l2 HN2.out).mono ?_
  rintro e x2 ⟨u2, L2, rfl, hb, hs, hl⟩
  have HL2 := hide hl
  have hlen : L2.length = U.he.length := by rw [← hl, List.length_map]
  obtain ⟨b2, m2, hu⟩ := hs.form
  rw [hlen] at hu
  subst hu
  clear hlen hl
  have hx2 : v2.heap.size ≤ x2.heap.size := hb.size
  replace FB := hide (FB.out.on hb)
  replace RB := hide (RB.out.on hb)
  replace HB := hide (bt HB.out hb)
  replace N0 := hide (N0.out.below hb)
  replace N1 := hide (N1.out.below hb)
  replace N5 := hide (N5.out.below hb)
  have N2 : Hid (NGRow PM mxL 8 x2 v2.heap.size x2.heap.size (.slice b2 U.he.length m2) L2) := hs
  clear hb hs
  have g9 : x2.cell? ⟨w.heap.size, 9, none⟩ = some (.slice a2 U.he.length k2) := FB.out.cell 9
  have gf := FB.out.free
  have y10 : ∀ u, (x2.setCell ⟨w.heap.size, 9, none⟩ u).cell? ⟨w.heap.size, 10, none⟩ = some (.slice a3 U.wi.length k3) := fun u => (FB.out.set (k := 9) u (by show 9 < 18; omega)).cell 10
  go_wp2_with fail
  clear g9 gf y10
  obtain ⟨v3, hwq, GF, GR, GB, GN0, GN1, GN5, GN2⟩ : ∃ wq, wq = (x2.setCell ⟨w.heap.size, 9, none⟩ (.slice b2 U.he.length m2)) ∧ Hid (Box wq w.heap.size (rrL U b0 m0 b1 m1 b2 m2 a3 k3 a4 k4 b5 m5 a6 k6).toArray) ∧ Hid (Box wq (w.heap.size + 1) #[.int .i64 0, .int .i64 0, .bool false, .int .i64 0, .int .i64 0, .slice none 0 0, .int .i64 0, .int .i64 0, .slice none 0 0, .slice none 0 0, .slice none 0 0, .bool false, .bool false, .int .i64 0, .slice none 0 0, .slice none 0 0, .slice none 0 0, .int .i64 0]) ∧ Hid (Below w.heap.size w wq) ∧ Hid (NRow rsL 2 wq v0.heap.size x0.heap.size (.slice b0 U.sf.sl.length m0) U.sf.sl) ∧ Hid (NRow rsL 2 wq x0.heap.size x1.heap.size (.slice b1 U.dk.sl.length m1) U.dk.sl) ∧ Hid (NRow rsL 2 wq x1.heap.size x5.heap.size (.slice b5 U.be.length m5) U.be) ∧ Hid (NGRow PM mxL 8 wq v2.heap.size x2.heap.size (.slice b2 U.he.length m2) L2) :=
    ⟨_, rfl, (FB.out.set (k := 9) (.slice b2 U.he.length m2) (by show 9 < 18; omega)), (RB.out.setFar (by simp only []; omega) _), (HB.out.setCell (by simp only []; omega) _), (N0.out.set (by simp only []; omega) _), (N1.out.set (by simp only []; omega) _), (N5.out.set (by simp only []; omega) _), (N2.out.set cloM (by simp only []; omega) _)⟩
  have hv3 : v3.heap.size = x2.heap.size := by rw [hwq]; simp [World.setCell]
  rw [← hwq]
  clear hwq FB RB HB N0 N1 N5 N2
  have FB := GF
  have RB := GR
  have HB := GB
  have N0 := GN0
  have N1 := GN1
  have N5 := GN5
  have N2 := GN2
  clear GF GR GB GN0 GN1 GN5 GN2
  refine (copyTx_any lo _ U.wi _ (HL.out.below HB.out).l3 q3).mono ?_
  rintro e x3 ⟨u3, rfl, hb, hs⟩
  obtain ⟨b3, m3, rfl⟩ := hs.form
  have hx3 : v3.heap.size ≤ x3.heap.size := hb.size
  replace FB := hide (FB.out.on hb)
  replace RB := hide (RB.out.on hb)
  replace HB := hide (bt HB.out hb)
  replace N0 := hide (N0.out.below hb)
  replace N1 := hide (N1.out.below hb)
  replace N5 := hide (N5.out.below hb)
  replace N2 := hide (N2.out.below cloM hb)
  have N3 : Hid (NRow tyL 1 x3 v3.heap.size x3.heap.size (.slice b3 U.wi.length m3) U.wi) := hs
  clear hb hs
  have g10 : x3.cell? ⟨w.heap.size, 10, none⟩ = some (.slice a3 U.wi.length k3) := FB.out.cell 10
  have gf := FB.out.free
  have y14 : ∀ u, (x3.setCell ⟨w.heap.size, 10, none⟩ u).cell? ⟨w.heap.size, 14, none⟩ = some (.slice a4 U.ye.length k4) := fun u => (FB.out.set (k := 10) u (by show 10 < 18; omega)).cell 14
  go_wp2_with (at_builtin; refine Hid.out ?_)
  clear g10 gf y14
  obtain ⟨v4, hwq, GF, GR, GB, GN0, GN1, GN5, GN2, GN3⟩ : ∃ wq, wq = (x3.setCell ⟨w.heap.size, 10, none⟩ (.slice b3 U.wi.length m3)) ∧ Hid (Box wq w.heap.size (rrL U b0 m0 b1 m1 b2 m2 b3 m3 a4 k4 b5 m5 a6 k6).toArray) ∧ Hid (Box wq (w.heap.size + 1) #[.int .i64 0, .int .i64 0, .bool false, .int .i64 0, .int .i64 0, .slice none 0 0, .int .i64 0, .int .i64 0, .slice none 0 0, .slice none 0 0, .slice none 0 0, .bool false, .bool false, .int .i64 0, .slice none 0 0, .slice none 0 0, .slice none 0 0, .int .i64 0]) ∧ Hid (Below w.heap.size w wq) ∧ Hid (NRow rsL 2 wq v0.heap.size x0.heap.size (.slice b0 U.sf.sl.length m0) U.sf.sl) ∧ Hid (NRow rsL 2 wq x0.heap.size x1.heap.size (.slice b1 U.dk.sl.length m1) U.dk.sl) ∧ Hid (NRow rsL 2 wq x1.heap.size x5.heap.size (.slice b5 U.be.length m5) U.be) ∧ Hid (NGRow PM mxL 8 wq v2.heap.size x2.heap.size (.slice b2 U.he.length m2) L2) ∧ Hid (NRow tyL 1 wq v3.heap.size x3.heap.size (.slice b3 U.wi.length m3) U.wi) :=
    ⟨_, rfl, (FB.out.set (k := 10) (.slice b3 U.wi.length m3) (by show 10 < 18; omega)), (RB.out.setFar (by simp only []; omega) _), (HB.out.setCell (by simp only []; omega) _), (N0.out.set (by simp only []; omega) _), (N1.out.set (by simp only []; omega) _), (N5.out.set (by simp only []; omega) _), (N2.out.set cloM (by simp only []; omega) _), (N3.out.set (by simp only []; omega) _)⟩
  have hv4 : v4.heap.size = x3.heap.size := by rw [hwq]; simp [World.setCell]
  rw [← hwq]
  clear hwq FB RB HB N0 N1 N5 N2 N3
  have FB := GF
  have RB := GR
  have HB := GB
  have N0 := GN0
  have N1 := GN1
  have N5 := GN5
  have N2 := GN2
  have N3 := GN3
  clear GF GR GB GN0 GN1 GN5 GN2 GN3
  have HP4 := hide (HL.out.below HB.out).l4
  refine hide ?_
  refine wpList_nr inL_len (by decide) Tryz.underlying27 infoIn rfl (w := v4) (lo := v4.heap.size) (hi' := v4.heap.size) (L := []) U.ye rfl (.const (.slice none 0 0)) (.tmp 24) rfl rfl (NRow.nil _ _ _ _ _) a4 U.ye.length k4 rfl rfl (fun e => HP4.out.nilN e) HP4.out.src (inL_one _) (by simp; omega) (by decide) ?_
  intro u4 x4 h1 h2
  have hb : Below v4.heap.size v4 x4 := h1.none (Nat.le_refl _)
  rw [List.nil_append] at h2
  have hs := NRow.freshB h2 h1.size
  obtain ⟨b4, m4, rfl⟩ := hs.form
  clear h1 h2 HP4
  have hx4 : v4.heap.size ≤ x4.heap.size := hb.size
  replace FB := hide (FB.out.on hb)
  replace RB := hide (RB.out.on hb)
  replace HB := hide (bt HB.out hb)
  replace N0 := hide (N0.out.below hb)
  replace N1 := hide (N1.out.below hb)
  replace N5 := hide (N5.out.below hb)
  replace N2 := hide (N2.out.below cloM hb)
  replace N3 := hide (N3.out.below hb)
  have N4 : Hid (NRow inL 1 x4 v4.heap.size x4.heap.size (.slice b4 U.ye.length m4) U.ye) := hs
  clear hb hs
  have g14 : x4.cell? ⟨w.heap.size, 14, none⟩ = some (.slice a4 U.ye.length k4) := FB.out.cell 14
  have gf := FB.out.free
  have y16 : ∀ u, (x4.setCell ⟨w.heap.size, 14, none⟩ u).cell? ⟨w.heap.size, 16, none⟩ = some (.slice a6 U.ac.length k6) := fun u => (FB.out.set (k := 14) u (by show 14 < 18; omega)).cell 16
  go_wp2_with fail
  clear g14 gf y16
  obtain ⟨v6, hwq, GF, GR, GB, GN0, GN1, GN5, GN2, GN3, GN4⟩ : ∃ wq, wq = (x4.setCell ⟨w.heap.size, 14, none⟩ (.slice b4 U.ye.length m4)) ∧ Hid (Box wq w.heap.size (rrL U b0 m0 b1 m1 b2 m2 b3 m3 b4 m4 b5 m5 a6 k6).toArray) ∧ Hid (Box wq (w.heap.size + 1) #[.int .i64 0, .int .i64 0, .bool false, .int .i64 0, .int .i64 0, .slice none 0 0, .int .i64 0, .int .i64 0, .slice none 0 0, .slice none 0 0, .slice none 0 0, .bool false, .bool false, .int .i64 0, .slice none 0 0, .slice none 0 0, .slice none 0 0, .int .i64 0]) ∧ Hid (Below w.heap.size w wq) ∧ Hid (NRow rsL 2 wq v0.heap.size x0.heap.size (.slice b0 U.sf.sl.length m0) U.sf.sl) ∧ Hid (NRow rsL 2 wq x0.heap.size x1.heap.size (.slice b1 U.dk.sl.length m1) U.dk.sl) ∧ Hid (NRow rsL 2 wq x1.heap.size x5.heap.size (.slice b5 U.be.length m5) U.be) ∧ Hid (NGRow PM mxL 8 wq v2.heap.size x2.heap.size (.slice b2 U.he.length m2) L2) ∧ Hid (NRow tyL 1 wq v3.heap.size x3.heap.size (.slice b3 U.wi.length m3) U.wi) ∧ Hid (NRow inL 1 wq v4.heap.size x4.heap.size (.slice b4 U.ye.length m4) U.ye) :=
    ⟨_, rfl, (FB.out.set (k := 14) (.slice b4 U.ye.length m4) (by show 14 < 18; omega)), (RB.out.setFar (by simp only []; omega) _), (HB.out.setCell (by simp only []; omega) _), (N0.out.set (by simp only []; omega) _), (N1.out.set (by simp only []; omega) _), (N5.out.set (by simp only []; omega) _), (N2.out.set cloM (by simp only []; omega) _), (N3.out.set (by simp only []; omega) _), (N4.out.set (by simp only []; omega) _)⟩
  have hv6 : v6.heap.size = x4.heap.size := by rw [hwq]; simp [World.setCell]
  rw [← hwq]
  clear hwq FB RB HB N0 N1 N5 N2 N3 N4
  have FB := GF
  have RB := GR
  have HB := GB
  have N0 := GN0
  have N1 := GN1
  have N5 := GN5
  have N2 := GN2
  have N3 := GN3
  have N4 := GN4
  clear GF GR GB GN0 GN1 GN5 GN2 GN3 GN4
  refine (eachAck_any lo _ U.ac _ (HL.out.below HB.out).l6 HN6.out).mono ?_
  rintro e x6 ⟨u6, L6, rfl, hb, hs, hl⟩
  have HL6 := hide hl
  have hlen : L6.length = U.ac.length := by rw [← hl, List.length_map]
  obtain ⟨b6, m6, hu⟩ := hs.form
  rw [hlen] at hu
  subst hu
  clear hlen hl
  have hx6 : v6.heap.size ≤ x6.heap.size := hb.size
  replace FB := hide (FB.out.on hb)
  replace RB := hide (RB.out.on hb)
  replace HB := hide (bt HB.out hb)
  replace N0 := hide (N0.out.below hb)
  replace N1 := hide (N1.out.below hb)
  replace N5 := hide (N5.out.below hb)
  replace N2 := hide (N2.out.below cloM hb)
  replace N3 := hide (N3.out.below hb)
  replace N4 := hide (N4.out.below hb)
  have N6 : Hid (NGRow PA axL 2 x6 v6.heap.size x6.heap.size (.slice b6 U.ac.length m6) L6) := hs
  clear hb hs
  have g16 : x6.cell? ⟨w.heap.size, 16, none⟩ = some (.slice a6 U.ac.length k6) := FB.out.cell 16
  have gf := FB.out.free
  obtain ⟨ll, hll⟩ : ∃ ll, ll = rrL U b0 m0 b1 m1 b2 m2 b3 m3 b4 m4 b5 m5 b6 m6 := ⟨_, rfl⟩
  have HLL := hide hll
  have h18 : ll.toArray.size = 18 := by rw [hll]; rfl
  have FB8 : Hid (Box (x6.setCell ⟨w.heap.size, 16, none⟩ (.slice b6 U.ac.length m6)) w.heap.size ll.toArray) := by unfold Hid; rw [hll]; exact FB.out.set (k := 16) (.slice b6 U.ac.length m6) (by show 16 < 18; omega)
  have RB8 : Hid (Box (x6.setCell ⟨w.heap.size, 16, none⟩ (.slice b6 U.ac.length m6)) (w.heap.size + 1) #[.int .i64 0, .int .i64 0, .bool false, .int .i64 0, .int .i64 0, .slice none 0 0, .int .i64 0, .int .i64 0, .slice none 0 0, .slice none 0 0, .slice none 0 0, .bool false, .bool false, .int .i64 0, .slice none 0 0, .slice none 0 0, .slice none 0 0, .int .i64 0]) := RB.out.setFar (by simp only []; omega) _
  have HS : Hid ((Tryz.prog.info? 41).map (·.size) = some ll.length) := by unfold Hid; rw [hll]; exact sizeRr
  have HSA : Hid ((Tryz.prog.info? 41).map (·.size) = some ll.toArray.size) := by unfold Hid; rw [hll]; exact sizeRr
  have HON : Hid (ll.toArray.all (·.oneCell') = true) := by unfold Hid; rw [hll]; simp [rrL, Value.oneCell']
  have HTH : Hid (World.there (x6.setCell ⟨w.heap.size, 16, none⟩ (.slice b6 U.ac.length m6)) (w.heap.size + 1) 0 ll.toArray.size) := by unfold Hid; rw [h18]; exact RB8.out.there rfl
  have HRA : Hid (World.rangeAt (x6.setCell ⟨w.heap.size, 16, none⟩ (.slice b6 U.ac.length m6)) w.heap.size 0 ll) := FB8.out.range rfl
  have H18 := hide h18
  clear hll h18
  go_wp2_with (first
    | (with_reducible refine wpList_load_mid (by with_reducible rfl) 41 (.tmp 1) (by with_reducible rfl) w.heap.size 0 (by with_unfolding_all rfl) ll _ HRA.out Tryz.underlying41 (by with_unfolding_all rfl) HS.out ?_)
    | (with_reducible refine wpList_store_mid (by with_reducible rfl) 41 (.tmp 2) (.tmp 31) (by with_reducible rfl) (w.heap.size + 1) 0 ll.toArray (by with_unfolding_all rfl) (by with_unfolding_all rfl) HTH.out HSA.out HON.out ?_; refine Hid.out ?_))
  clear g16 gf
  generalize hW : World.setCells _ _ _ _ = W9
  have FR9 : Hid (Box W9 (w.heap.size + 1) ll.toArray) := by unfold Hid; rw [← hW]; exact RB8.out.full (by rw [H18.out]; rfl)
  have h9 : W9.heap.size = x6.heap.size := by rw [← hW, size_sets]; simp [World.setCell]
  have HB9 : Hid (Below w.heap.size w W9) := by unfold Hid; rw [← hW]; exact Below.sets (by omega) _ _ (HB.out.setCell (by simp only []; omega) _)
  have M0 : Hid (NRow rsL 2 W9 v0.heap.size x0.heap.size (.slice b0 U.sf.sl.length m0) U.sf.sl) := by unfold Hid; rw [← hW]; exact sets_of (P := fun W => NRow rsL 2 W v0.heap.size x0.heap.size (.slice b0 U.sf.sl.length m0) U.sf.sl) (fun _ _ u hp h => h.set hp u) (show w.heap.size + 1 < v0.heap.size by omega) _ _ _ (N0.out.set (show w.heap.size < v0.heap.size by omega) _)
  have M1 : Hid (NRow rsL 2 W9 x0.heap.size x1.heap.size (.slice b1 U.dk.sl.length m1) U.dk.sl) := by unfold Hid; rw [← hW]; exact sets_of (P := fun W => NRow rsL 2 W x0.heap.size x1.heap.size (.slice b1 U.dk.sl.length m1) U.dk.sl) (fun _ _ u hp h => h.set hp u) (show w.heap.size + 1 < x0.heap.size by omega) _ _ _ (N1.out.set (show w.heap.size < x0.heap.size by omega) _)
  have M2 : Hid (NGRow PM mxL 8 W9 v2.heap.size x2.heap.size (.slice b2 U.he.length m2) L2) := by unfold Hid; rw [← hW]; exact sets_of (P := fun W => NGRow PM mxL 8 W v2.heap.size x2.heap.size (.slice b2 U.he.length m2) L2) (fun _ _ u hp h => h.set cloM hp u) (show w.heap.size + 1 < v2.heap.size by omega) _ _ _ (N2.out.set cloM (show w.heap.size < v2.heap.size by omega) _)
  have M3 : Hid (NRow tyL 1 W9 v3.heap.size x3.heap.size (.slice b3 U.wi.length m3) U.wi) := by unfold Hid; rw [← hW]; exact sets_of (P := fun W => NRow tyL 1 W v3.heap.size x3.heap.size (.slice b3 U.wi.length m3) U.wi) (fun _ _ u hp h => h.set hp u) (show w.heap.size + 1 < v3.heap.size by omega) _ _ _ (N3.out.set (show w.heap.size < v3.heap.size by omega) _)
  have M4 : Hid (NRow inL 1 W9 v4.heap.size x4.heap.size (.slice b4 U.ye.length m4) U.ye) := by unfold Hid; rw [← hW]; exact sets_of (P := fun W => NRow inL 1 W v4.heap.size x4.heap.size (.slice b4 U.ye.length m4) U.ye) (fun _ _ u hp h => h.set hp u) (show w.heap.size + 1 < v4.heap.size by omega) _ _ _ (N4.out.set (show w.heap.size < v4.heap.size by omega) _)
  have M5 : Hid (NRow rsL 2 W9 x1.heap.size x5.heap.size (.slice b5 U.be.length m5) U.be) := by unfold Hid; rw [← hW]; exact sets_of (P := fun W => NRow rsL 2 W x1.heap.size x5.heap.size (.slice b5 U.be.length m5) U.be) (fun _ _ u hp h => h.set hp u) (show w.heap.size + 1 < x1.heap.size by omega) _ _ _ (N5.out.set (show w.heap.size < x1.heap.size by omega) _)
  have M6 : Hid (NGRow PA axL 2 W9 v6.heap.size x6.heap.size (.slice b6 U.ac.length m6) L6) := by unfold Hid; rw [← hW]; exact sets_of (P := fun W => NGRow PA axL 2 W v6.heap.size x6.heap.size (.slice b6 U.ac.length m6) L6) (fun _ _ u hp h => h.set cloA hp u) (show w.heap.size + 1 < v6.heap.size by omega) _ _ _ (N6.out.set cloA (show w.heap.size < v6.heap.size by omega) _)
  clear hW
  refine hide ?_
  go_wp2
  refine bodyPost_ret (v := .agg ll.toArray) (res_rr (p := 2) (ty := 41) Tryz.results42 _ _ (w.heap.size + 1) 0 ll _ rfl (FR9.out.range rfl) Tryz.underlying41 rfl HS.out) rfl ⟨b0, m0, b1, m1, b2, m2, b3, m3, b4, m4, b5, m5, b6, m6, fun i => (lo7 (v0.heap.size) (x0.heap.size) (v2.heap.size) (v3.heap.size) (v4.heap.size) (x1.heap.size) (v6.heap.size) i, lo7 (x0.heap.size) (x1.heap.size) (x2.heap.size) (x3.heap.size) (x4.heap.size) (x5.heap.size) (x6.heap.size) i), by rw [HLL.out], HB9.out, ⟨fun i hi => ?_, fun i j hi hj hne => ?_, M0.out, M1.out, ⟨L2, M2.out, HL2.out⟩, M3.out, M4.out, M5.out, ⟨L6, M6.out, HL6.out⟩⟩⟩
  · rcases (by omega : i = 0 ∨ i = 1 ∨ i = 2 ∨ i = 3 ∨ i = 4 ∨ i = 5 ∨ i = 6) with rfl | rfl | rfl | rfl | rfl | rfl | rfl <;> simp only [lo7] <;> omega
  · rcases (by omega : i = 0 ∨ i = 1 ∨ i = 2 ∨ i = 3 ∨ i = 4 ∨ i = 5 ∨ i = 6) with rfl | rfl | rfl | rfl | rfl | rfl | rfl <;> rcases (by omega : j = 0 ∨ j = 1 ∨ j = 2 ∨ j = 3 ∨ j = 4 ∨ j = 5 ∨ j = 6) with rfl | rfl | rfl | rfl | rfl | rfl | rfl <;> simp only [lo7] <;> omega
end Go.Proofs.YtfbfgljkiikabaaGreat
