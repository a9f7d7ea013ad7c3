import Derived.Test.YtfbfgljkiikabaaGreatV22
import Derived.Deep.RegionHeld3
namespace Go.Proofs.YtfbfgljkiikabaaGreat
open Go.RowKit Go.Deep

theorem step_append_run {P : Program} {w w' : World} {v v1 v2 : Value} {ops : Array Oper} {o : Oper} {a : Act} {K : Act → World → Prop} {Q : Exit → Act → World → Prop} {E : Prop} (hgd : o.guard = none) (s x : Operand) (t : TypeId)
    (ho : o.op = .call { callee := .builtin .append, args := #[s, x], argTypes := #[t, t] }) (hs : a.eval s = v1) (hx : a.eval x = v2) (hr : (Builtin.append_ #[t, t] o.type #[v1, v2]).run P w = .ok v w') (h : K (a.put o.dst v) w') :
    if Region.wanted o (yielded ops a.tmps) = true then Oper.wp P o a w K Q else E := by
  have hw : Region.wanted o (yielded ops a.tmps) = true := by simp [Region.wanted, hgd]
  rw [if_pos hw]
  unfold Oper.wp execOp
  simp only [ho, resolve, invoke, builtin, Sem.run_bind, Sem.run_pure, Result.andThen_ok, List.map_toArray, List.map_cons, List.map_nil, hs, hx, hr]
  exact h
theorem MR.set {w : World} {lo hi g : Nat} {v : Value} {L : List MX} (h : MR w lo hi g v L) {p : Addr} (hp : p.block < lo) (u : Value) : MR (w.setCell p u) lo hi g v L :=
  h.touch (Touch.setCell p.block (p.block + 1) w p u ⟨Nat.le_refl _, Nat.lt_succ_self _⟩) (Or.inr hp)
theorem AR.set {w : World} {lo hi g : Nat} {v : Value} {L : List AX} (h : AR w lo hi g v L) {p : Addr} (hp : p.block < lo) (u : Value) : AR (w.setCell p u) lo hi g v L :=
  h.touch (Touch.setCell p.block (p.block + 1) w p u ⟨Nat.le_refl _, Nat.lt_succ_self _⟩) (Or.inr hp)
/-- a recorder's copy: each list in a row that grows, in a part of memory of its own -/
structure Cpy (w : World) (lo : Nat) (c : Nat → Nat × Nat) (v0 v1 v2 v3 v4 v5 v6 : Value) (U : Rr) : Prop where
  seg : ∀ i, i < 7 → lo ≤ (c i).1 ∧ (c i).2 ≤ w.heap.size
  ap : ∀ i j, i < 7 → j < 7 → i ≠ j → (c i).2 ≤ (c j).1 ∨ (c j).2 ≤ (c i).1
  o0 : FRow rsL 2 w (c 0).1 (c 0).2 v0 U.sf.sl
  o1 : FRow rsL 2 w (c 1).1 (c 1).2 v1 U.dk.sl
  o2 : ∃ g L, MR w (c 2).1 (c 2).2 g v2 L ∧ L.map (·.1) = U.he
  o3 : FRow tyL 1 w (c 3).1 (c 3).2 v3 U.wi
  o4 : FRow inL 1 w (c 4).1 (c 4).2 v4 U.ye
  o5 : FRow rsL 2 w (c 5).1 (c 5).2 v5 U.be
  o6 : ∃ g L, AR w (c 6).1 (c 6).2 g v6 L ∧ L.map (·.1) = U.ac

set_option maxRecDepth 20000 in
set_option maxHeartbeats 16000000 in
theorem copyR_any (lo : Nat) (cs : List Value) (U : Rr) (w : World) (h : RrC lo w cs U) (hn : RrSmall U) :
    Calls Tryz.prog 31 #[.agg cs.toArray] w
      fun e w' => ∃ b0 m0 b1 m1 b2 m2 b3 m3 b4 m4 b5 m5 b6 m6 c, e = .returned (.agg (rrL U b0 m0 b1 m1 b2 m2 b3 m3 b4 m4 b5 m5 b6 m6).toArray) ∧ Below w.heap.size w w' ∧ Cpy w' w.heap.size c (.slice b0 U.sf.sl.length m0) (.slice b1 U.dk.sl.length m1) (.slice b2 U.he.length m2) (.slice b3 U.wi.length m3) (.slice b4 U.ye.length m4) (.slice b5 U.be.length m5) (.slice b6 U.ac.length m6) U := by
  obtain ⟨a0, k0, a1, k1, a2, k2, a3, k3, a4, k4, a5, k5, a6, k6, rfl, h⟩ := h
  have HL := hide h
  obtain ⟨hn0, hn1, hn2, hn3, hn4, hn5, hn6⟩ := hn
  have HN2 := hide hn2
  have HN6 := hide hn6
  have q0 := hn0.1
  have q1 := hn1.1
  have q3 := hn3
  have q4 := hn4
  have q5 := hn5.1
  have q6 := hn6.1
  unfold RtsSmall at q3
  unfold RisSmall at q4
  clear h hn0 hn1 hn2 hn3 hn4 hn5 hn6
  obtain ⟨cs, hcs⟩ : ∃ cs, cs = rrL U a0 k0 a1 k1 a2 k2 a3 k3 a4 k4 a5 k5 a6 k6 := ⟨_, rfl⟩
  rw [← hcs]
  go_enter Tryz.func31, Tryz.ntmps31
  have HCS := hide hcs
  have c3 : cs[3]? = some (.int .i64 U.sf.pr) := by rw [hcs]; rfl
  have c4 : cs[4]? = some (.int .i64 U.sf.kn) := by rw [hcs]; rfl
  have c5 : cs[5]? = some (.slice a0 U.sf.sl.length k0) := by rw [hcs]; rfl
  clear hcs
  go_wp2_with fail
  clear c3 c4 c5
  obtain ⟨v0, hv0, FB, RB, HB⟩ : ∃ wz, wz = (w.alloc (.cells cs.toArray 41)).alloc (.cells #[.int .i64 0, .int .i64 0, .bool false, .int .i64 0, .int .i64 0, .slice none 0 0, .int .i64 0, .int .i64 0, .slice none 0 0, .slice none 0 0, .slice none 0 0, .bool false, .bool false, .int .i64 0, .slice none 0 0, .slice none 0 0, .slice none 0 0, .int .i64 0] 41) ∧
      Hid (Box wz w.heap.size (rrL U a0 k0 a1 k1 a2 k2 a3 k3 a4 k4 a5 k5 a6 k6).toArray) ∧ Hid (Box wz (w.heap.size + 1) #[.int .i64 0, .int .i64 0, .bool false, .int .i64 0, .int .i64 0, .slice none 0 0, .int .i64 0, .int .i64 0, .slice none 0 0, .slice none 0 0, .slice none 0 0, .bool false, .bool false, .int .i64 0, .slice none 0 0, .slice none 0 0, .slice none 0 0, .int .i64 0]) ∧ Hid (Below w.heap.size w wz) :=
    ⟨_, rfl, by unfold Hid; rw [← HCS.out]; exact (Box.new w _ _ _ rfl).on (one_al _ _), Box.new _ _ _ _ (by simp), (one_al _ _).trans ((one_al _ _).mono (by simp))⟩
  rw [← hv0]
  clear hv0
  have hz0 : w.heap.size + 2 ≤ v0.heap.size := by have := RB.out.lt; omega
  refine (diskF_any lo U.sf a0 k0 _ (HL.out.below HB.out).l0 q0).mono ?_
  rintro e x0 ⟨b0, m0, rfl, hb, hs⟩
  have hx0 : v0.heap.size ≤ x0.heap.size := hb.size
  replace FB := hide (FB.out.on hb)
  replace RB := hide (RB.out.on hb)
  replace HB := hide (bt HB.out hb)
  clear hb
  have N0 := hide hs
  clear hs
  have g3 : x0.cell? ⟨w.heap.size, 3, none⟩ = some (.int .i64 U.sf.pr) := FB.out.cell 3
  have g4 : x0.cell? ⟨w.heap.size, 4, none⟩ = some (.int .i64 U.sf.kn) := FB.out.cell 4
  have g5 : x0.cell? ⟨w.heap.size, 5, none⟩ = some (.slice a0 U.sf.sl.length k0) := FB.out.cell 5
  have gf := FB.out.free
  have y6 : x0.cell? ⟨w.heap.size, 6, none⟩ = some (.int .i64 U.dk.pr) := FB.out.cell 6
  have y7 : x0.cell? ⟨w.heap.size, 7, none⟩ = some (.int .i64 U.dk.kn) := FB.out.cell 7
  have y8 : x0.cell? ⟨w.heap.size, 8, none⟩ = some (.slice a1 U.dk.sl.length k1) := FB.out.cell 8
  go_wp2_with fail
  clear g3 g4 g5 gf y6 y7 y8
  obtain ⟨v1, hwq, GF, GR, GB, GN0⟩ : ∃ wq, wq = (((x0.setCell ⟨w.heap.size, 3, none⟩ (.int .i64 U.sf.pr)).setCell ⟨w.heap.size, 4, none⟩ (.int .i64 U.sf.kn)).setCell ⟨w.heap.size, 5, none⟩ (.slice b0 U.sf.sl.length m0)) ∧ Hid (Box wq w.heap.size (rrL U b0 m0 a1 k1 a2 k2 a3 k3 a4 k4 a5 k5 a6 k6).toArray) ∧ Hid (Box wq (w.heap.size + 1) #[.int .i64 0, .int .i64 0, .bool false, .int .i64 0, .int .i64 0, .slice none 0 0, .int .i64 0, .int .i64 0, .slice none 0 0, .slice none 0 0, .slice none 0 0, .bool false, .bool false, .int .i64 0, .slice none 0 0, .slice none 0 0, .slice none 0 0, .int .i64 0]) ∧ Hid (Below w.heap.size w wq) ∧ Hid (FRow rsL 2 wq v0.heap.size x0.heap.size (.slice b0 U.sf.sl.length m0) U.sf.sl) :=
    ⟨_, rfl, (((FB.out.set (k := 3) (.int .i64 U.sf.pr) (by show 3 < 18; omega)).set (k := 4) (.int .i64 U.sf.kn) (by show 4 < 18; omega)).set (k := 5) (.slice b0 U.sf.sl.length m0) (by show 5 < 18; omega)), (((RB.out.setFar (by simp only []; omega) _).setFar (by simp only []; omega) _).setFar (by simp only []; omega) _), (((HB.out.setCell (by simp only []; omega) _).setCell (by simp only []; omega) _).setCell (by simp only []; omega) _), (((N0.out.set (by simp only []; omega) _).set (by simp only []; omega) _).set (by simp only []; omega) _)⟩
  have hv1 : v1.heap.size = x0.heap.size := by rw [hwq]; simp [World.setCell]
  rw [← hwq]
  clear hwq FB RB HB N0
  have FB := GF
  have RB := GR
  have HB := GB
  have N0 := GN0
  clear GF GR GB GN0
  have g6 : v1.cell? ⟨w.heap.size, 6, none⟩ = some (.int .i64 U.dk.pr) := FB.out.cell 6
  have g7 : v1.cell? ⟨w.heap.size, 7, none⟩ = some (.int .i64 U.dk.kn) := FB.out.cell 7
  have g8 : v1.cell? ⟨w.heap.size, 8, none⟩ = some (.slice a1 U.dk.sl.length k1) := FB.out.cell 8
  go_wp2_with fail
  clear g6 g7 g8
  refine (diskF_any lo U.dk a1 k1 _ (HL.out.below HB.out).l1 q1).mono ?_
  rintro e x1 ⟨b1, m1, rfl, hb, hs⟩
  have hx1 : v1.heap.size ≤ x1.heap.size := hb.size
  replace FB := hide (FB.out.on hb)
  replace RB := hide (RB.out.on hb)
  replace HB := hide (bt HB.out hb)
  replace N0 := hide (N0.out.below hb)
  clear hb
  have N1 := hide hs
  clear hs
  have g6 : x1.cell? ⟨w.heap.size, 6, none⟩ = some (.int .i64 U.dk.pr) := FB.out.cell 6
  have g7 : x1.cell? ⟨w.heap.size, 7, none⟩ = some (.int .i64 U.dk.kn) := FB.out.cell 7
  have g8 : x1.cell? ⟨w.heap.size, 8, none⟩ = some (.slice a1 U.dk.sl.length k1) := FB.out.cell 8
  have gf := FB.out.free
  have y9 : x1.cell? ⟨w.heap.size, 9, none⟩ = some (.slice a2 U.he.length k2) := FB.out.cell 9
  go_wp2_with fail
  clear g6 g7 g8 gf y9
  obtain ⟨v2, hwq, GF, GR, GB, GN0, GN1⟩ : ∃ wq, wq = (((x1.setCell ⟨w.heap.size, 6, none⟩ (.int .i64 U.dk.pr)).setCell ⟨w.heap.size, 7, none⟩ (.int .i64 U.dk.kn)).setCell ⟨w.heap.size, 8, none⟩ (.slice b1 U.dk.sl.length m1)) ∧ Hid (Box wq w.heap.size (rrL U b0 m0 b1 m1 a2 k2 a3 k3 a4 k4 a5 k5 a6 k6).toArray) ∧ Hid (Box wq (w.heap.size + 1) #[.int .i64 0, .int .i64 0, .bool false, .int .i64 0, .int .i64 0, .slice none 0 0, .int .i64 0, .int .i64 0, .slice none 0 0, .slice none 0 0, .slice none 0 0, .bool false, .bool false, .int .i64 0, .slice none 0 0, .slice none 0 0, .slice none 0 0, .int .i64 0]) ∧ Hid (Below w.heap.size w wq) ∧ Hid (FRow rsL 2 wq v0.heap.size x0.heap.size (.slice b0 U.sf.sl.length m0) U.sf.sl) ∧ Hid (FRow rsL 2 wq v1.heap.size x1.heap.size (.slice b1 U.dk.sl.length m1) U.dk.sl) :=
    ⟨_, rfl, (((FB.out.set (k := 6) (.int .i64 U.dk.pr) (by show 6 < 18; omega)).set (k := 7) (.int .i64 U.dk.kn) (by show 7 < 18; omega)).set (k := 8) (.slice b1 U.dk.sl.length m1) (by show 8 < 18; omega)), (((RB.out.setFar (by simp only []; omega) _).setFar (by simp only []; omega) _).setFar (by simp only []; omega) _), (((HB.out.setCell (by simp only []; omega) _).setCell (by simp only []; omega) _).setCell (by simp only []; omega) _), (((N0.out.set (by simp only []; omega) _).set (by simp only []; omega) _).set (by simp only []; omega) _), (((N1.out.set (by simp only []; omega) _).set (by simp only []; omega) _).set (by simp only []; omega) _)⟩
  have hv2 : v2.heap.size = x1.heap.size := by rw [hwq]; simp [World.setCell]
  rw [← hwq]
  clear hwq FB RB HB N0 N1
  have FB := GF
  have RB := GR
  have HB := GB
  have N0 := GN0
  have N1 := GN1
  clear GF GR GB GN0 GN1
  refine (msgsF_any lo _ U.he _ (HL.out.below HB.out).l2 HN2.out).mono ?_
  rintro e x2 ⟨u2, g2, L2, rfl, hb, hs, hl2⟩
  have HL2 := hide hl2
  have hlen2 : L2.length = U.he.length := by rw [← hl2, List.length_map]
  obtain ⟨gg2, m2, hu2, hfr2⟩ := hs.row
  rw [hlen2] at hu2
  subst hu2
  obtain ⟨b2, hb2⟩ : ∃ b2 : Option Addr, b2 = some ⟨gg2, 0, none⟩ := ⟨_, rfl⟩
  rw [← hb2] at hs
  rw [← hb2]
  clear hfr2 hlen2 hl2 hb2
  have hx2 : v2.heap.size ≤ x2.heap.size := hb.size
  replace FB := hide (FB.out.on hb)
  replace RB := hide (RB.out.on hb)
  replace HB := hide (bt HB.out hb)
  replace N0 := hide (N0.out.below hb)
  replace N1 := hide (N1.out.below hb)
  clear hb
  have N2 := hide hs
  clear hs
  have g9 : x2.cell? ⟨w.heap.size, 9, none⟩ = some (.slice a2 U.he.length k2) := FB.out.cell 9
  have y10 : ∀ u o, ((x2.setCell ⟨w.heap.size, 9, none⟩ u).alloc o).cell? ⟨w.heap.size, 10, none⟩ = some (.slice a3 U.wi.length k3) := fun u o => ((FB.out.set (k := 9) u (by show 9 < 18; omega)).on (one_al _ _)).cell 10
  have gf := FB.out.free
  go_wp2_with (at_builtin; refine Hid.out ?_)
  clear g9 gf y10
  obtain ⟨v3, hwq, GF, GR, GB, GN0, GN1, GN2⟩ : ∃ wq, wq = (x2.setCell ⟨w.heap.size, 9, none⟩ (.slice b2 U.he.length m2)) ∧ Hid (Box wq w.heap.size (rrL U b0 m0 b1 m1 b2 m2 a3 k3 a4 k4 a5 k5 a6 k6).toArray) ∧ Hid (Box wq (w.heap.size + 1) #[.int .i64 0, .int .i64 0, .bool false, .int .i64 0, .int .i64 0, .slice none 0 0, .int .i64 0, .int .i64 0, .slice none 0 0, .slice none 0 0, .slice none 0 0, .bool false, .bool false, .int .i64 0, .slice none 0 0, .slice none 0 0, .slice none 0 0, .int .i64 0]) ∧ Hid (Below w.heap.size w wq) ∧ Hid (FRow rsL 2 wq v0.heap.size x0.heap.size (.slice b0 U.sf.sl.length m0) U.sf.sl) ∧ Hid (FRow rsL 2 wq v1.heap.size x1.heap.size (.slice b1 U.dk.sl.length m1) U.dk.sl) ∧ Hid (MR wq v2.heap.size x2.heap.size g2 (.slice b2 U.he.length m2) L2) :=
    ⟨_, rfl, (FB.out.set (k := 9) (.slice b2 U.he.length m2) (by show 9 < 18; omega)), (RB.out.setFar (by simp only []; omega) _), (HB.out.setCell (by simp only []; omega) _), (N0.out.set (by simp only []; omega) _), (N1.out.set (by simp only []; omega) _), (N2.out.set (by simp only []; omega) _)⟩
  have hv3 : v3.heap.size = x2.heap.size := by rw [hwq]; simp [World.setCell]
  rw [← hwq]
  clear hwq FB RB HB N0 N1 N2
  have FB := GF
  have RB := GR
  have HB := GB
  have N0 := GN0
  have N1 := GN1
  have N2 := GN2
  clear GF GR GB GN0 GN1 GN2
  rw [← hv3]
  refine hide ?_
  have HO3 : Hid (∀ o, Below v3.heap.size v3 (v3.alloc o)) := fun o => one_al _ o
  have HP3 := hide (HL.out.below HB.out).l3
  refine wpList_fr tyL_len (by decide) Tryz.underlying26 infoTx rfl (w := v3.alloc _) (lo := v3.heap.size) (hi' := v3.heap.size + 1) (L := []) U.wi rfl (.tmp 17) (.tmp 19) rfl rfl ⟨v3.heap.size, 0, rfl, fr_new tyL 1 v3 _ _ 0 rfl (Nat.zero_le _)⟩ a3 U.wi.length k3 rfl rfl (fun e => HP3.out.nilN e) ((HP3.out.below (HO3.out _)).src) (tyL_one _) (by simp; omega) (by decide) ?_
  intro u3 x3 h1 h2
  have hsz3 : v3.heap.size + 1 ≤ x3.heap.size := by have := h1.size; simp at this; omega
  have hb : Below v3.heap.size v3 x3 := (HO3.out _).trans (h1.under (by simp))
  rw [List.nil_append] at h2
  have hs : FRow tyL 1 x3 v3.heap.size x3.heap.size u3 U.wi := FRow.fresh (by simpa using h2) hsz3
  obtain ⟨gg3, m3, rfl, hfr3⟩ := hs
  have hs : FRow tyL 1 x3 v3.heap.size x3.heap.size (.slice (some ⟨gg3, 0, none⟩) U.wi.length m3) U.wi := ⟨gg3, m3, rfl, hfr3⟩
  obtain ⟨b3, hbb3⟩ : ∃ b : Option Addr, b = some ⟨gg3, 0, none⟩ := ⟨_, rfl⟩
  rw [← hbb3] at hs
  rw [← hbb3]
  clear hfr3 hbb3 h1 h2 hsz3 HO3 HP3
  have hx3 : v3.heap.size ≤ x3.heap.size := hb.size
  replace FB := hide (FB.out.on hb)
  replace RB := hide (RB.out.on hb)
  replace HB := hide (bt HB.out hb)
  replace N0 := hide (N0.out.below hb)
  replace N1 := hide (N1.out.below hb)
  replace N2 := hide (N2.out.below hb)
  clear hb
  have N3 := hide hs
  clear hs
  have g10 : x3.cell? ⟨w.heap.size, 10, none⟩ = some (.slice a3 U.wi.length k3) := FB.out.cell 10
  have y14 : ∀ u o, ((x3.setCell ⟨w.heap.size, 10, none⟩ u).alloc o).cell? ⟨w.heap.size, 14, none⟩ = some (.slice a4 U.ye.length k4) := fun u o => ((FB.out.set (k := 10) u (by show 10 < 18; omega)).on (one_al _ _)).cell 14
  have gf := FB.out.free
  go_wp2_with (at_builtin; refine Hid.out ?_)
  clear g10 gf y14
  obtain ⟨v4, hwq, GF, GR, GB, GN0, GN1, GN2, GN3⟩ : ∃ wq, wq = (x3.setCell ⟨w.heap.size, 10, none⟩ (.slice b3 U.wi.length m3)) ∧ Hid (Box wq w.heap.size (rrL U b0 m0 b1 m1 b2 m2 b3 m3 a4 k4 a5 k5 a6 k6).toArray) ∧ Hid (Box wq (w.heap.size + 1) #[.int .i64 0, .int .i64 0, .bool false, .int .i64 0, .int .i64 0, .slice none 0 0, .int .i64 0, .int .i64 0, .slice none 0 0, .slice none 0 0, .slice none 0 0, .bool false, .bool false, .int .i64 0, .slice none 0 0, .slice none 0 0, .slice none 0 0, .int .i64 0]) ∧ Hid (Below w.heap.size w wq) ∧ Hid (FRow rsL 2 wq v0.heap.size x0.heap.size (.slice b0 U.sf.sl.length m0) U.sf.sl) ∧ Hid (FRow rsL 2 wq v1.heap.size x1.heap.size (.slice b1 U.dk.sl.length m1) U.dk.sl) ∧ Hid (MR wq v2.heap.size x2.heap.size g2 (.slice b2 U.he.length m2) L2) ∧ Hid (FRow tyL 1 wq v3.heap.size x3.heap.size (.slice b3 U.wi.length m3) U.wi) :=
    ⟨_, rfl, (FB.out.set (k := 10) (.slice b3 U.wi.length m3) (by show 10 < 18; omega)), (RB.out.setFar (by simp only []; omega) _), (HB.out.setCell (by simp only []; omega) _), (N0.out.set (by simp only []; omega) _), (N1.out.set (by simp only []; omega) _), (N2.out.set (by simp only []; omega) _), (N3.out.set (by simp only []; omega) _)⟩
  have hv4 : v4.heap.size = x3.heap.size := by rw [hwq]; simp [World.setCell]
  rw [← hwq]
  clear hwq FB RB HB N0 N1 N2 N3
  have FB := GF
  have RB := GR
  have HB := GB
  have N0 := GN0
  have N1 := GN1
  have N2 := GN2
  have N3 := GN3
  clear GF GR GB GN0 GN1 GN2 GN3
  rw [← hv4]
  refine hide ?_
  have HO4 : Hid (∀ o, Below v4.heap.size v4 (v4.alloc o)) := fun o => one_al _ o
  have HP4 := hide (HL.out.below HB.out).l4
  refine wpList_fr inL_len (by decide) Tryz.underlying27 infoIn rfl (w := v4.alloc _) (lo := v4.heap.size) (hi' := v4.heap.size + 1) (L := []) U.ye rfl (.tmp 22) (.tmp 24) rfl rfl ⟨v4.heap.size, 0, rfl, fr_new inL 1 v4 _ _ 0 rfl (Nat.zero_le _)⟩ a4 U.ye.length k4 rfl rfl (fun e => HP4.out.nilN e) ((HP4.out.below (HO4.out _)).src) (inL_one _) (by simp; omega) (by decide) ?_
  intro u4 x4 h1 h2
  have hsz4 : v4.heap.size + 1 ≤ x4.heap.size := by have := h1.size; simp at this; omega
  have hb : Below v4.heap.size v4 x4 := (HO4.out _).trans (h1.under (by simp))
  rw [List.nil_append] at h2
  have hs : FRow inL 1 x4 v4.heap.size x4.heap.size u4 U.ye := FRow.fresh (by simpa using h2) hsz4
  obtain ⟨gg4, m4, rfl, hfr4⟩ := hs
  have hs : FRow inL 1 x4 v4.heap.size x4.heap.size (.slice (some ⟨gg4, 0, none⟩) U.ye.length m4) U.ye := ⟨gg4, m4, rfl, hfr4⟩
  obtain ⟨b4, hbb4⟩ : ∃ b : Option Addr, b = some ⟨gg4, 0, none⟩ := ⟨_, rfl⟩
  rw [← hbb4] at hs
  rw [← hbb4]
  clear hfr4 hbb4 h1 h2 hsz4 HO4 HP4
  have hx4 : v4.heap.size ≤ x4.heap.size := hb.size
  replace FB := hide (FB.out.on hb)
  replace RB := hide (RB.out.on hb)
  replace HB := hide (bt HB.out hb)
  replace N0 := hide (N0.out.below hb)
  replace N1 := hide (N1.out.below hb)
  replace N2 := hide (N2.out.below hb)
  replace N3 := hide (N3.out.below hb)
  clear hb
  have N4 := hide hs
  clear hs
  have g14 : x4.cell? ⟨w.heap.size, 14, none⟩ = some (.slice a4 U.ye.length k4) := FB.out.cell 14
  have y15 : x4.cell? ⟨w.heap.size, 15, none⟩ = some (.slice a5 U.be.length k5) := FB.out.cell 15
  have gf := FB.out.free
  go_wp2_with fail
  clear g14 gf y15
  obtain ⟨v5, hwq, GF, GR, GB, GN0, GN1, GN2, GN3, GN4⟩ : ∃ wq, wq = (x4.setCell ⟨w.heap.size, 14, none⟩ (.slice b4 U.ye.length m4)) ∧ Hid (Box wq w.heap.size (rrL U b0 m0 b1 m1 b2 m2 b3 m3 b4 m4 a5 k5 a6 k6).toArray) ∧ Hid (Box wq (w.heap.size + 1) #[.int .i64 0, .int .i64 0, .bool false, .int .i64 0, .int .i64 0, .slice none 0 0, .int .i64 0, .int .i64 0, .slice none 0 0, .slice none 0 0, .slice none 0 0, .bool false, .bool false, .int .i64 0, .slice none 0 0, .slice none 0 0, .slice none 0 0, .int .i64 0]) ∧ Hid (Below w.heap.size w wq) ∧ Hid (FRow rsL 2 wq v0.heap.size x0.heap.size (.slice b0 U.sf.sl.length m0) U.sf.sl) ∧ Hid (FRow rsL 2 wq v1.heap.size x1.heap.size (.slice b1 U.dk.sl.length m1) U.dk.sl) ∧ Hid (MR wq v2.heap.size x2.heap.size g2 (.slice b2 U.he.length m2) L2) ∧ Hid (FRow tyL 1 wq v3.heap.size x3.heap.size (.slice b3 U.wi.length m3) U.wi) ∧ Hid (FRow inL 1 wq v4.heap.size x4.heap.size (.slice b4 U.ye.length m4) U.ye) :=
    ⟨_, rfl, (FB.out.set (k := 14) (.slice b4 U.ye.length m4) (by show 14 < 18; omega)), (RB.out.setFar (by simp only []; omega) _), (HB.out.setCell (by simp only []; omega) _), (N0.out.set (by simp only []; omega) _), (N1.out.set (by simp only []; omega) _), (N2.out.set (by simp only []; omega) _), (N3.out.set (by simp only []; omega) _), (N4.out.set (by simp only []; omega) _)⟩
  have hv5 : v5.heap.size = x4.heap.size := by rw [hwq]; simp [World.setCell]
  rw [← hwq]
  clear hwq FB RB HB N0 N1 N2 N3 N4
  have FB := GF
  have RB := GR
  have HB := GB
  have N0 := GN0
  have N1 := GN1
  have N2 := GN2
  have N3 := GN3
  have N4 := GN4
  clear GF GR GB GN0 GN1 GN2 GN3 GN4
  refine (slotsF_any lo _ U.be _ (HL.out.below HB.out).l5 q5).mono ?_
  rintro e x5 ⟨u5, rfl, hb, hs⟩
  obtain ⟨gg5, m5, rfl, hfr5⟩ := hs
  have hs : FRow rsL 2 x5 v5.heap.size x5.heap.size (.slice (some ⟨gg5, 0, none⟩) U.be.length m5) U.be := ⟨gg5, m5, rfl, hfr5⟩
  obtain ⟨b5, hbb5⟩ : ∃ b : Option Addr, b = some ⟨gg5, 0, none⟩ := ⟨_, rfl⟩
  rw [← hbb5] at hs
  rw [← hbb5]
  clear hfr5 hbb5
  have hx5 : v5.heap.size ≤ x5.heap.size := hb.size
  replace FB := hide (FB.out.on hb)
  replace RB := hide (RB.out.on hb)
  replace HB := hide (bt HB.out hb)
  replace N0 := hide (N0.out.below hb)
  replace N1 := hide (N1.out.below hb)
  replace N2 := hide (N2.out.below hb)
  replace N3 := hide (N3.out.below hb)
  replace N4 := hide (N4.out.below hb)
  clear hb
  have N5 := hide hs
  clear hs
  have g15 : x5.cell? ⟨w.heap.size, 15, none⟩ = some (.slice a5 U.be.length k5) := FB.out.cell 15
  have gf := FB.out.free
  go_wp2
  clear g15 gf
  obtain ⟨v6, hwq, GF, GR, GB, GN0, GN1, GN2, GN3, GN4, GN5⟩ : ∃ wq, wq = (x5.setCell ⟨w.heap.size, 15, none⟩ (.slice b5 U.be.length m5)) ∧ Hid (Box wq w.heap.size (rrL U b0 m0 b1 m1 b2 m2 b3 m3 b4 m4 b5 m5 a6 k6).toArray) ∧ Hid (Box wq (w.heap.size + 1) #[.int .i64 0, .int .i64 0, .bool false, .int .i64 0, .int .i64 0, .slice none 0 0, .int .i64 0, .int .i64 0, .slice none 0 0, .slice none 0 0, .slice none 0 0, .bool false, .bool false, .int .i64 0, .slice none 0 0, .slice none 0 0, .slice none 0 0, .int .i64 0]) ∧ Hid (Below w.heap.size w wq) ∧ Hid (FRow rsL 2 wq v0.heap.size x0.heap.size (.slice b0 U.sf.sl.length m0) U.sf.sl) ∧ Hid (FRow rsL 2 wq v1.heap.size x1.heap.size (.slice b1 U.dk.sl.length m1) U.dk.sl) ∧ Hid (MR wq v2.heap.size x2.heap.size g2 (.slice b2 U.he.length m2) L2) ∧ Hid (FRow tyL 1 wq v3.heap.size x3.heap.size (.slice b3 U.wi.length m3) U.wi) ∧ Hid (FRow inL 1 wq v4.heap.size x4.heap.size (.slice b4 U.ye.length m4) U.ye) ∧ Hid (FRow rsL 2 wq v5.heap.size x5.heap.size (.slice b5 U.be.length m5) U.be) :=
    ⟨_, rfl, (FB.out.set (k := 15) (.slice b5 U.be.length m5) (by show 15 < 18; omega)), (RB.out.setFar (by simp only []; omega) _), (HB.out.setCell (by simp only []; omega) _), (N0.out.set (by simp only []; omega) _), (N1.out.set (by simp only []; omega) _), (N2.out.set (by simp only []; omega) _), (N3.out.set (by simp only []; omega) _), (N4.out.set (by simp only []; omega) _), (N5.out.set (by simp only []; omega) _)⟩
  have hv6 : v6.heap.size = x5.heap.size := by rw [hwq]; simp [World.setCell]
  rw [← hwq]
  clear hwq FB RB HB N0 N1 N2 N3 N4 N5
  have FB := GF
  have RB := GR
  have HB := GB
  have N0 := GN0
  have N1 := GN1
  have N2 := GN2
  have N3 := GN3
  have N4 := GN4
  have N5 := GN5
  clear GF GR GB GN0 GN1 GN2 GN3 GN4 GN5
  rw [← hv6]
  have HV1 := hide hv1
  have HV2 := hide hv2
  have HV3 := hide hv3
  have HV4 := hide hv4
  have HV5 := hide hv5
  have HV6 := hide hv6
  clear hv1 hv2 hv3 hv4 hv5 hv6
  have HP6 := hide (HL.out.below HB.out).l6
  have hm6 := HP6.out.max
  unfold maxLen at hm6
  go_loopw [3, 4] (fun o i wr => ∃ (k g : Nat) (L : List AX), i = .int .i64 k ∧ k ≤ U.ac.length ∧ Below v6.heap.size v6 wr ∧ AR wr v6.heap.size wr.heap.size g o L ∧ L.map (·.1) = U.ac.take k) (fun _ i _ => U.ac.length - (intOf i).toNat)
  case atStart =>
    exact ⟨0, v6.heap.size, [], rfl, by omega, one_al _ _, ⟨⟨v6.heap.size, 0, rfl, (fr_new axL 2 v6 _ _ 0 rfl (Nat.zero_le _)).own⟩, Nat.le_refl _, by simp, ⟨fun _ => (0, 0), fun i hi => absurd hi (Nat.not_lt_zero _), fun i j hi => absurd hi (Nat.not_lt_zero _), fun i hi => absurd hi (Nat.not_lt_zero _)⟩⟩, by simp⟩
  case round =>
    obtain ⟨k, g, L, rfl, hk, hb, hm, hL⟩ := hrel
    have HBr := hide hb
    have HM := hide hm
    have HLk := hide hL
    have HLl : Hid (L.length = k) := by
      unfold Hid
      have := congrArg List.length hL
      rw [List.length_map, List.length_take] at this
      omega
    have y16 : wr.cell? ⟨w.heap.size, 16, none⟩ = some (.slice a6 U.ac.length k6) := (FB.out.on hb).cell 16
    clear hb hm hL
    obtain ⟨gg, cp, ho, hfr⟩ := HM.out.row
    subst ho
    clear hfr
    by_cases hlt : k < U.ac.length
    · obtain ⟨b, off, hab, hbw, -, hc⟩ := HP6.out.full' (by omega)
      subst hab
      obtain ⟨x, hx⟩ : ∃ x, x = U.ac[k] := ⟨_, rfl⟩
      obtain ⟨xs, hr, z0, n0, rfl, hf⟩ := hc k hlt
      rw [← hx] at hf hr
      have HS : Hid (x.fr.length ≤ 1048576) := by unfold Hid; rw [hx]; exact HN6.out.2 k hlt
      have HF := hide hf.l0
      have HX := hide hx
      have R0 : Hid (v6.cell? ⟨b, off + k * 2, none⟩ = some (.int .i64 x.ix)) := hr 0 _ rfl
      have R1 : Hid (v6.cell? ⟨b, off + k * 2 + 1, none⟩ = some (.slice z0 x.fr.length n0)) := hr 1 _ rfl
      have R2 : Hid (v6.cell? ⟨w.heap.size, 16, none⟩ = some (.slice (some ⟨b, off, none⟩) U.ac.length k6)) := FB.out.cell 16
      have KP : Hid (∀ W, Below v6.heap.size v6 W → W.cell? ⟨w.heap.size, 16, none⟩ = some (.slice (some ⟨b, off, none⟩) U.ac.length k6) ∧ W.cell? ⟨b, off + k * 2, none⟩ = some (.int .i64 x.ix) ∧ W.cell? ⟨b, off + k * 2 + 1, none⟩ = some (.slice z0 x.fr.length n0)) := fun W hW => ⟨(hW.cell (p := ⟨w.heap.size, 16, none⟩) FB.out.lt).trans R2.out, (hW.cell (p := ⟨b, off + k * 2, none⟩) hbw).trans R0.out, (hW.cell (p := ⟨b, off + k * 2 + 1, none⟩) hbw).trans R1.out⟩
      have i0 : (0 : Int) ≤ (k : Int) := by omega
      have i1 : (k : Int) < (U.ac.length : Int) := by omega
      clear hc hr hf hx R0 R1 R2
      go_wp2
      clear y16
      refine wp_region_held_drew (S := fun W => W.cell? ⟨w.heap.size, 16, none⟩ = some (.slice (some ⟨b, off, none⟩) U.ac.length k6) ∧ W.cell? ⟨b, off + k * 2, none⟩ = some (.int .i64 x.ix) ∧ W.cell? ⟨b, off + k * 2 + 1, none⟩ = some (.slice z0 x.fr.length n0)) (by kernel_rfl) (KP.out _ (HBr.out.drew)) (fun hHeld => ?_)
      refine wpAnyH_take (i := 0) (v := .slice (some ⟨gg, 0, none⟩) L.length cp) rfl (by kernel_rfl) (by kernel_rfl) (by kernel_rfl) (fun _ _ _ h => h) (Or.inl ⟨by rfl, fun W hW => by obtain ⟨t0, t1, t2⟩ := hW; go_simp⟩) hHeld ?_
      simp only [Act.put, List.setIfInBounds_toArray]
      refine wpAnyH_take (i := 1) (v := .pointer (some ⟨w.heap.size, 16, none⟩)) rfl (by kernel_rfl) (by kernel_rfl) (by kernel_rfl) (fun _ _ _ h => h) (Or.inl ⟨by rfl, fun W hW => by obtain ⟨t0, t1, t2⟩ := hW; go_simp⟩) hHeld ?_
      simp only [Act.put]
      refine wpAnyH_take (i := 2) (v := .slice (some ⟨b, off, none⟩) U.ac.length k6) rfl (by kernel_rfl) (by kernel_rfl) (by kernel_rfl) (fun _ _ _ h => h) (Or.inl ⟨by rfl, fun W hW => by obtain ⟨t0, t1, t2⟩ := hW; go_simp⟩) hHeld ?_
      simp only [Act.put]
      refine wpAnyH_take (i := 3) (v := .int .i64 k) rfl (by kernel_rfl) (by kernel_rfl) (by kernel_rfl) (fun _ _ _ h => h) (Or.inl ⟨by rfl, fun W hW => by obtain ⟨t0, t1, t2⟩ := hW; go_simp⟩) hHeld ?_
      simp only [Act.put]
      refine wpAnyH_take (i := 4) (v := .pointer (some ⟨b, off + k * 2, none⟩)) rfl (by kernel_rfl) (by kernel_rfl) (by kernel_rfl) (fun _ _ _ h => h) (Or.inl ⟨by rfl, fun W hW => by obtain ⟨t0, t1, t2⟩ := hW; go_simp⟩) hHeld ?_
      simp only [Act.put]
      refine wpAnyH_take (i := 5) (v := .pointer (some ⟨b, off + k * 2, none⟩)) rfl (by kernel_rfl) (by kernel_rfl) (by kernel_rfl) (fun _ _ _ h => h) (Or.inl ⟨by rfl, fun W hW => by obtain ⟨t0, t1, t2⟩ := hW; go_simp⟩) hHeld ?_
      simp only [Act.put]
      refine wpAnyH_take (i := 6) (v := .int .i64 x.ix) rfl (by kernel_rfl) (by kernel_rfl) (by kernel_rfl) (fun _ _ _ h => h) (Or.inl ⟨by rfl, fun W hW => by obtain ⟨t0, t1, t2⟩ := hW; go_simp⟩) hHeld ?_
      simp only [Act.put]
      refine wpAnyH_take (i := 8) (v := .pointer (some ⟨w.heap.size, 16, none⟩)) rfl (by kernel_rfl) (by kernel_rfl) (by kernel_rfl) (fun _ _ _ h => h) (Or.inl ⟨by rfl, fun W hW => by obtain ⟨t0, t1, t2⟩ := hW; go_simp⟩) hHeld ?_
      simp only [Act.put]
      refine wpAnyH_take (i := 9) (v := .slice (some ⟨b, off, none⟩) U.ac.length k6) rfl (by kernel_rfl) (by kernel_rfl) (by kernel_rfl) (fun _ _ _ h => h) (Or.inl ⟨by rfl, fun W hW => by obtain ⟨t0, t1, t2⟩ := hW; go_simp⟩) hHeld ?_
      simp only [Act.put]
      refine wpAnyH_take (i := 10) (v := .int .i64 k) rfl (by kernel_rfl) (by kernel_rfl) (by kernel_rfl) (fun _ _ _ h => h) (Or.inl ⟨by rfl, fun W hW => by obtain ⟨t0, t1, t2⟩ := hW; go_simp⟩) hHeld ?_
      simp only [Act.put]
      refine wpAnyH_take (i := 11) (v := .pointer (some ⟨b, off + k * 2, none⟩)) rfl (by kernel_rfl) (by kernel_rfl) (by kernel_rfl) (fun _ _ _ h => h) (Or.inl ⟨by rfl, fun W hW => by obtain ⟨t0, t1, t2⟩ := hW; go_simp⟩) hHeld ?_
      simp only [Act.put]
      refine wpAnyH_take (i := 12) (v := .pointer (some ⟨b, off + k * 2 + 1, none⟩)) rfl (by kernel_rfl) (by kernel_rfl) (by kernel_rfl) (fun _ _ _ h => h) (Or.inl ⟨by rfl, fun W hW => by obtain ⟨t0, t1, t2⟩ := hW; go_simp⟩) hHeld ?_
      simp only [Act.put]
      refine wpAnyH_take (i := 13) (v := .slice z0 x.fr.length n0) rfl (by kernel_rfl) (by kernel_rfl) (by kernel_rfl) (fun _ _ _ h => h) (Or.inl ⟨by rfl, fun W hW => by obtain ⟨t0, t1, t2⟩ := hW; go_simp⟩) hHeld ?_
      simp only [Act.put]
      refine wpAnyH_ready (rs := [7]) (by kernel_rfl) (by simp) ?_
      refine AllReadyH.cons rfl (fun KK hK => ?_) AllReadyH.nil
      go_simp
      obtain ⟨y1, hy1⟩ : ∃ y1, y1 = (wr.alloc (.cells #[] 3)).drew := ⟨_, rfl⟩
      have HBy1 : Hid (Below wr.heap.size wr y1) := by unfold Hid; rw [hy1]; exact (one_al _ _).drew
      have HI1 : Hid (FR inL 1 y1 wr.heap.size (wr.heap.size + 1) wr.heap.size 0 ([] : List Int)) := by unfold Hid; rw [hy1]; exact (fr_new inL 1 wr _ _ 0 rfl (Nat.zero_le _)).below ((Below.refl _ _).drew)
      rw [← hy1]
      clear hy1
      refine hK.out _ _ (KP.out _ (bt HBr.out HBy1.out)) (fun hHeld => ?_)
      clear hK KK
      try simp only [Act.put, List.setIfInBounds_toArray, List.set_cons_zero, List.set_cons_succ]
      have HF1 := hide (HF.out.below (bt HBr.out HBy1.out))
      obtain ⟨u1, y2, hrun, ht1, hf1⟩ := run_fr inL_len (by decide) Tryz.underlying27 infoIn rfl (w := y1) (lo := wr.heap.size) (hi' := wr.heap.size + 1) (v := .slice (some ⟨wr.heap.size, 0, none⟩) 0 0) (L := []) (M := x.fr) 27 ⟨wr.heap.size, 0, rfl, HI1.out⟩ z0 x.fr.length n0 rfl (fun e => HF1.out.nilN e) HF1.out.src (inL_one _) (by have := HS.out; simp; omega) (by decide)
      have HT1 := hide ht1
      have HR1 := hide hf1
      clear ht1 hf1
      refine wpAnyH_ready (rs := [14]) (by kernel_rfl) (by simp) ?_
      refine AllReadyH.cons rfl (fun KK hK => ?_) AllReadyH.nil
      refine step_append_run rfl (.tmp 46) (.tmp 52) 27 rfl rfl rfl hrun ?_
      have hsz1 : wr.heap.size + 1 ≤ y1.heap.size := by have := HI1.out.lt; omega
      have HBy2 : Hid (Below wr.heap.size wr y2) := HBy1.out.trans (HT1.out.under (by omega))
      have hy2 : y1.heap.size ≤ y2.heap.size := HT1.out.size
      refine hK.out _ _ (KP.out _ (bt HBr.out HBy2.out)) (fun hHeld => ?_)
      clear hK KK hrun
      try simp only [Act.put, List.setIfInBounds_toArray]
      have HJ : Hid (FRow inL 1 y2 wr.heap.size y2.heap.size u1 x.fr) := by
        unfold Hid
        have := HR1.out
        rw [List.nil_append] at this
        rcases this with h | h
        · exact h.wide (Nat.le_refl _) (by omega)
        · exact h.wide (by omega) (Nat.le_refl _)
      obtain ⟨ga, na, hu1, hga⟩ := HJ.out
      subst hu1
      clear hga
      refine wpAnyH_take (i := 15) (v := .agg #[.int .i64 x.ix, .slice (some ⟨ga, 0, none⟩) x.fr.length na]) rfl (by kernel_rfl) (by kernel_rfl) (by kernel_rfl) (fun _ _ _ h => h) (Or.inl ⟨by rfl, fun W hW => by obtain ⟨t0, t1, t2⟩ := hW; go_simp⟩) hHeld ?_
      simp only [Act.put]
      refine wpAnyH_ready (rs := [16]) (by kernel_rfl) (by simp) ?_
      refine AllReadyH.cons rfl (fun KK hK => ?_) AllReadyH.nil
      go_simp
      obtain ⟨y3, hy3⟩ : ∃ y3, y3 = y2.alloc (.cells #[.int .i64 x.ix, .slice (some ⟨ga, 0, none⟩) x.fr.length na] 112) := ⟨_, rfl⟩
      have HBx : Hid (Box y3 y2.heap.size #[.int .i64 x.ix, .slice (some ⟨ga, 0, none⟩) x.fr.length na]) := by unfold Hid; rw [hy3]; exact Box.new _ _ _ _ rfl
      have HB23 : Hid (Below y2.heap.size y2 y3) := by unfold Hid; rw [hy3]; exact one_al _ _
      rw [← hy3]
      clear hy3
      have HBy3 : Hid (Below wr.heap.size wr y3) := bt HBy2.out HB23.out
      have hs23 : y2.heap.size ≤ y3.heap.size := HB23.out.size
      refine hK.out _ _ (KP.out _ (bt HBr.out HBy3.out)) (fun hHeld => ?_)
      clear hK KK
      try simp only [Act.put, List.setIfInBounds_toArray, List.set_cons_zero, List.set_cons_succ]
      have hwr : v6.heap.size ≤ wr.heap.size := HBr.out.size
      have HM3 : Hid (AR y3 v6.heap.size wr.heap.size g (.slice (some ⟨gg, 0, none⟩) L.length cp) L) := HM.out.below HBy3.out
      have hsw3 := HBy3.out.size
      have HI3 : Hid (InA y3 wr.heap.size y3.heap.size g (x, some ⟨ga, 0, none⟩, na)) := ⟨wr.heap.size, y2.heap.size, Nat.le_refl _, HBy2.out.size, hs23, Or.inl HM.out.up, HJ.out.below HB23.out⟩
      obtain ⟨u2, y4, hrun, ht2, hf2⟩ := run_fr axL_len (by decide) Tryz.underlying39 Ra_info rfl (w := y3) (lo := g) (hi' := g + 1) (v := .slice (some ⟨gg, 0, none⟩) L.length cp) (L := L) (M := [(x, some ⟨ga, 0, none⟩, na)]) 39 HM3.out.row (some ⟨y2.heap.size, 0, none⟩) 1 1 rfl (fun e => by cases e) (fun ad e j u hu => by
          injection e with e
          subst e
          rw [Addr.add_lit, Nat.zero_add, HBx.out.cell j]
          simpa [flatV, axL, raL] using hu) (axL_one _) (by have := HLl.out; simp; omega) (by decide)
      have HT2 := hide ht2
      have HR2 := hide hf2
      clear ht2 hf2
      refine wpAnyH_ready (rs := [17]) (by kernel_rfl) (by simp) ?_
      refine AllReadyH.cons rfl (fun KK hK => ?_) AllReadyH.nil
      refine step_append_run rfl (.tmp 39) (.tmp 55) 39 rfl rfl rfl hrun ?_
      have hgl := HM3.out.low
      have hgu := HM3.out.lt
      have HBy4 : Hid (Below v6.heap.size v6 y4) := (bt HBr.out HBy3.out).trans ((HT2.out.under (by omega)).mono hgl)
      refine hK.out _ _ (KP.out _ HBy4.out) (fun hHeld => ?_)
      clear hK KK hrun
      try simp only [Act.put, List.setIfInBounds_toArray]
      obtain ⟨g', hg'⟩ := HM3.out.snoc hsw3 HI3.out HT2.out HR2.out hwr
      have HG := hide hg'
      clear hg'
      refine wpAnyH_take (i := 18) (v := u2) rfl (by kernel_rfl) (by kernel_rfl) (by kernel_rfl) (fun _ _ _ h => h) (Or.inl ⟨by rfl, fun W hW => by obtain ⟨t0, t1, t2⟩ := hW; go_simp⟩) hHeld ?_
      simp only [Act.put]
      refine wpAnyH_done (by kernel_rfl) ?_ _
      go_wp2
      go_roundw
      case rel =>
        have hrel : ∃ (kk gq : Nat) (LL : List AX), (.int .i64 ((k : Int) + 1) : Value) = .int .i64 kk ∧ kk ≤ U.ac.length ∧ Below v6.heap.size v6 y4 ∧ AR y4 v6.heap.size y4.heap.size gq u2 LL ∧ LL.map (·.1) = U.ac.take kk := ⟨k + 1, g', L ++ [(x, some ⟨ga, 0, none⟩, na)], by go_num, by omega, HBy4.out, HG.out, by rw [List.map_append, HLk.out, List.take_succ_eq_append_getElem hlt, HX.out]; rfl⟩
        first
        | exact hrel
        | ((repeat apply Exists.intro); exact ⟨hrel, rfl⟩)
      case measure => simp [intOf]; omega
    · have hkl : k = U.ac.length := by omega
      subst hkl
      have hL6 : L.map (·.1) = U.ac := by rw [HLk.out, List.take_length]
      have HL6 := hide hL6
      have hlen6 : L.length = U.ac.length := HLl.out
      clear hL6
      rw [hlen6] at HM
      rw [hlen6]
      obtain ⟨b6, hb6⟩ : ∃ b6 : Option Addr, b6 = some ⟨gg, 0, none⟩ := ⟨_, rfl⟩
      rw [← hb6] at HM
      rw [← hb6]
      clear hb6 hlen6
      have FB7 := hide (FB.out.on HBr.out)
      have RB7 := hide (RB.out.on HBr.out)
      have HB7 := hide (bt HB.out HBr.out)
      have hwr : v6.heap.size ≤ wr.heap.size := HBr.out.size
      replace N0 := hide (N0.out.below HBr.out)
      replace N1 := hide (N1.out.below HBr.out)
      replace N2 := hide (N2.out.below HBr.out)
      replace N3 := hide (N3.out.below HBr.out)
      replace N4 := hide (N4.out.below HBr.out)
      replace N5 := hide (N5.out.below HBr.out)
      obtain ⟨ll, hll⟩ : ∃ ll, ll = rrL U b0 m0 b1 m1 b2 m2 b3 m3 b4 m4 b5 m5 b6 cp := ⟨_, rfl⟩
      have HLL := hide hll
      have FB8 : Hid (Box (wr.setCell ⟨w.heap.size, 16, none⟩ (.slice b6 U.ac.length cp)) w.heap.size ll.toArray) := by unfold Hid; rw [hll]; exact FB7.out.set (k := 16) (.slice b6 U.ac.length cp) (by show 16 < 18; omega)
      have RB8 : Hid (Box (wr.setCell ⟨w.heap.size, 16, none⟩ (.slice b6 U.ac.length cp)) (w.heap.size + 1) #[.int .i64 0, .int .i64 0, .bool false, .int .i64 0, .int .i64 0, .slice none 0 0, .int .i64 0, .int .i64 0, .slice none 0 0, .slice none 0 0, .slice none 0 0, .bool false, .bool false, .int .i64 0, .slice none 0 0, .slice none 0 0, .slice none 0 0, .int .i64 0]) := RB7.out.setFar (by simp only []; omega) _
      have h18 : ll.toArray.size = 18 := by rw [hll]; rfl
      have HS : Hid ((Tryz.prog.info? 41).map (·.size) = some ll.length) := by unfold Hid; rw [hll]; exact sizeRr
      have HSA : Hid ((Tryz.prog.info? 41).map (·.size) = some ll.toArray.size) := by unfold Hid; rw [hll]; exact sizeRr
      have HON : Hid (ll.toArray.all (·.oneCell') = true) := by unfold Hid; rw [hll]; simp [rrL, Value.oneCell']
      have HTH : Hid (World.there (wr.setCell ⟨w.heap.size, 16, none⟩ (.slice b6 U.ac.length cp)) (w.heap.size + 1) 0 ll.toArray.size) := by unfold Hid; rw [h18]; exact RB8.out.there rfl
      have HRA : Hid (World.rangeAt (wr.setCell ⟨w.heap.size, 16, none⟩ (.slice b6 U.ac.length cp)) w.heap.size 0 ll) := FB8.out.range rfl
      have gf : wr.frozen? ⟨w.heap.size, 16, none⟩ = false := FB7.out.free 16
      have H18 := hide h18
      clear hll h18
      go_wp2_with (first
        | (with_reducible refine wpList_load_mid (by with_reducible rfl) 41 (.tmp 1) (by with_reducible rfl) w.heap.size 0 (by with_unfolding_all rfl) ll _ HRA.out Tryz.underlying41 (by with_unfolding_all rfl) HS.out ?_)
        | (with_reducible refine wpList_store_mid (by with_reducible rfl) 41 (.tmp 2) (.tmp 59) (by with_reducible rfl) (w.heap.size + 1) 0 ll.toArray (by with_unfolding_all rfl) (by with_unfolding_all rfl) HTH.out HSA.out HON.out ?_; refine Hid.out ?_))
      clear y16 gf
      generalize hW : World.setCells _ _ _ _ = W9
      have FR9 : Hid (Box W9 (w.heap.size + 1) ll.toArray) := by unfold Hid; rw [← hW]; exact RB8.out.full (by rw [H18.out]; rfl)
      have h9 : W9.heap.size = wr.heap.size := by rw [← hW, size_sets]; simp [World.setCell]
      have HB9 : Hid (Below w.heap.size w W9) := by unfold Hid; rw [← hW]; exact Below.sets (by omega) _ _ (HB7.out.setCell (by simp only []; omega) _)
      have V1 := HV1.out
      have V2 := HV2.out
      have V3 := HV3.out
      have V4 := HV4.out
      have V5 := HV5.out
      have V6 := HV6.out
      have M0 : Hid (FRow rsL 2 W9 v0.heap.size x0.heap.size (.slice b0 U.sf.sl.length m0) U.sf.sl) := by unfold Hid; rw [← hW]; exact sets_of (P := fun W => FRow rsL 2 W v0.heap.size x0.heap.size (.slice b0 U.sf.sl.length m0) U.sf.sl) (fun _ _ u hp h => h.set hp u) (show w.heap.size + 1 < v0.heap.size by omega) _ _ _ (N0.out.set (show w.heap.size < v0.heap.size by omega) _)
      have M1 : Hid (FRow rsL 2 W9 v1.heap.size x1.heap.size (.slice b1 U.dk.sl.length m1) U.dk.sl) := by unfold Hid; rw [← hW]; exact sets_of (P := fun W => FRow rsL 2 W v1.heap.size x1.heap.size (.slice b1 U.dk.sl.length m1) U.dk.sl) (fun _ _ u hp h => h.set hp u) (show w.heap.size + 1 < v1.heap.size by omega) _ _ _ (N1.out.set (show w.heap.size < v1.heap.size by omega) _)
      have M2 : Hid (MR W9 v2.heap.size x2.heap.size g2 (.slice b2 U.he.length m2) L2) := by unfold Hid; rw [← hW]; exact sets_of (P := fun W => MR W v2.heap.size x2.heap.size g2 (.slice b2 U.he.length m2) L2) (fun _ _ u hp h => h.set hp u) (show w.heap.size + 1 < v2.heap.size by omega) _ _ _ (N2.out.set (show w.heap.size < v2.heap.size by omega) _)
      have M3 : Hid (FRow tyL 1 W9 v3.heap.size x3.heap.size (.slice b3 U.wi.length m3) U.wi) := by unfold Hid; rw [← hW]; exact sets_of (P := fun W => FRow tyL 1 W v3.heap.size x3.heap.size (.slice b3 U.wi.length m3) U.wi) (fun _ _ u hp h => h.set hp u) (show w.heap.size + 1 < v3.heap.size by omega) _ _ _ (N3.out.set (show w.heap.size < v3.heap.size by omega) _)
      have M4 : Hid (FRow inL 1 W9 v4.heap.size x4.heap.size (.slice b4 U.ye.length m4) U.ye) := by unfold Hid; rw [← hW]; exact sets_of (P := fun W => FRow inL 1 W v4.heap.size x4.heap.size (.slice b4 U.ye.length m4) U.ye) (fun _ _ u hp h => h.set hp u) (show w.heap.size + 1 < v4.heap.size by omega) _ _ _ (N4.out.set (show w.heap.size < v4.heap.size by omega) _)
      have M5 : Hid (FRow rsL 2 W9 v5.heap.size x5.heap.size (.slice b5 U.be.length m5) U.be) := by unfold Hid; rw [← hW]; exact sets_of (P := fun W => FRow rsL 2 W v5.heap.size x5.heap.size (.slice b5 U.be.length m5) U.be) (fun _ _ u hp h => h.set hp u) (show w.heap.size + 1 < v5.heap.size by omega) _ _ _ (N5.out.set (show w.heap.size < v5.heap.size by omega) _)
      have M6 : Hid (AR W9 v6.heap.size wr.heap.size g (.slice b6 U.ac.length cp) L) := by unfold Hid; rw [← hW]; exact sets_of (P := fun W => AR W v6.heap.size wr.heap.size g (.slice b6 U.ac.length cp) L) (fun _ _ u hp h => h.set hp u) (show w.heap.size + 1 < v6.heap.size by omega) _ _ _ (HM.out.set (show w.heap.size < v6.heap.size by omega) _)
      clear hW
      refine hide ?_
      go_wp2
      refine bodyPost_ret (v := .agg ll.toArray) (res_rr (p := 2) (ty := 41) Tryz.results31 _ _ (w.heap.size + 1) 0 ll _ rfl (FR9.out.range rfl) Tryz.underlying41 rfl HS.out) rfl ⟨b0, m0, b1, m1, b2, m2, b3, m3, b4, m4, b5, m5, b6, cp, fun i => (lo7 v0.heap.size v1.heap.size v2.heap.size v3.heap.size v4.heap.size v5.heap.size v6.heap.size i, lo7 x0.heap.size x1.heap.size x2.heap.size x3.heap.size x4.heap.size x5.heap.size wr.heap.size i), by rw [HLL.out], HB9.out, ⟨fun i hi => ?_, fun i j hi hj hne => seven_ap (a := lo7 v0.heap.size v1.heap.size v2.heap.size v3.heap.size v4.heap.size v5.heap.size v6.heap.size) (b := lo7 x0.heap.size x1.heap.size x2.heap.size x3.heap.size x4.heap.size x5.heap.size wr.heap.size) ?_ ?_ i j hi hj hne, M0.out, M1.out, ⟨g2, L2, M2.out, HL2.out⟩, M3.out, M4.out, M5.out, ⟨g, L, M6.out, HL6.out⟩⟩⟩
      · match i, hi with
        | 0, _ => simp only [lo7]; omega
        | 1, _ => simp only [lo7]; omega
        | 2, _ => simp only [lo7]; omega
        | 3, _ => simp only [lo7]; omega
        | 4, _ => simp only [lo7]; omega
        | 5, _ => simp only [lo7]; omega
        | 6, _ => simp only [lo7]; omega
      · intro i hi
        match i, hi with
        | 0, _ => simp only [lo7]; omega
        | 1, _ => simp only [lo7]; omega
        | 2, _ => simp only [lo7]; omega
        | 3, _ => simp only [lo7]; omega
        | 4, _ => simp only [lo7]; omega
        | 5, _ => simp only [lo7]; omega
      · intro i hi
        match i, hi with
        | 0, _ => simp only [lo7]; omega
        | 1, _ => simp only [lo7]; omega
        | 2, _ => simp only [lo7]; omega
        | 3, _ => simp only [lo7]; omega
        | 4, _ => simp only [lo7]; omega
        | 5, _ => simp only [lo7]; omega
        | 6, _ => simp only [lo7]; omega
end Go.Proofs.YtfbfgljkiikabaaGreat
