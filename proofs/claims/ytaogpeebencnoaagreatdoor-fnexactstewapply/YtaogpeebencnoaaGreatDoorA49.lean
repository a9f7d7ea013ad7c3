import Derived.Test.YtaogpeebencnoaaGreatDoorA48
namespace Go.Proofs.YtaogpeebencnoaaGreatDoor
open Go.RowKit Go.Deep

theorem HeldW.set {W0 W : World} {γ b o : Nat} {cs : Array Value} {y : Sv} (h : HeldW W0 γ cs b o y W) {β : Nat} (hβ : W0.heap.size ≤ β) (k : Nat) (u : Value) : HeldW W0 γ cs b o y (W.setCell ⟨β, k, none⟩ u) := by
  obtain ⟨h0, k0, k1, k2, k3, k4, k5, k6, k7, k8, k9, k10, k11, k12, hh⟩ := h
  obtain ⟨q1, q2, q3⟩ := hh.out
  exact HeldW.mk' (fun i => (cell_setCell_ne _ _ _ _ (show γ ≠ β by omega)).trans (h0 i)) (SvCells.set ⟨k0, k1, k2, k3, k4, k5, k6, k7, k8, k9, k10, k11, k12⟩ (by simp only []; omega) u) (q1.setCell hβ u) q2 q3
theorem ct_len (p : Cp → Bool) (L : List Cp) : 0 ≤ ct p L ∧ ct p L ≤ L.length := by
  unfold ct
  have := List.countP_le_length (p := p) (l := L)
  omega
section
variable (w0 w : World) (lo γ s0 s1 c0 c1 e0 e1 sb so sc pl n0 : Nat) (cv bv ev : Value) (A : Ac) (y : Sv) (v : Int) (ss : List Sv) (cs : List Cp) (bs : List Be)

set_option maxRecDepth 100000 in
set_option maxHeartbeats 16000000 in
theorem mayDrop_any (hpl : pl < ss.length) (hpn : pl < n0) (hy : ss[pl] = y)
    (h : Wk w0 w lo γ s0 s1 c0 c1 e0 e1 #[.int .i64 v, .slice (some ⟨sb, so, none⟩) n0 sc, cv, bv, .string A.sv, .int .i64 A.sn, .int .i64 A.cr, .int .i64 A.wa, .int .i64 A.cl, .bool A.sc, ev, .bool A.dp, .int .i64 pl] (.slice (some ⟨sb, so, none⟩) n0 sc) cv bv ss cs bs)
    (hr : risR aheadB cs = true) (hnu : ∀ i (h : i < cs.length), 1 ≤ cs[i].nu) (hl : cs.length ≤ 1000) :
    Calls Tryz.prog 110 #[.pointer (some ⟨γ, 0, none⟩)] w fun e w' => Below w.heap.size w w' ∧ ((six1 A y (ctL cs y.nm y.im) = true ∧ e = .panicked [{ v := haltV 6, recovered := false }]) ∨
      (six1 A y (ctL cs y.nm y.im) = false ∧ e = .returned (.tuple #[]))) := by
  have HW := hide h
  have HY := hide hy
  have HR := hide hr
  have HNU := hide hnu
  obtain ⟨ba, bc, rfl⟩ := h.eo.form
  have hcv : ∃ a n k, cv = .slice a n k := by
    obtain ⟨a, k, e⟩ := h.co.form
    exact ⟨a, _, k, e⟩
  clear h hy hr hnu
  obtain ⟨-, -, hs3, -, hs5⟩ := HW.out.so.oneAt hpl
  rw [HY.out] at hs5
  have HSV := hide hs5
  clear hs5
  go_enter Tryz.func110, Tryz.ntmps110
  go_wp2_with fail
  go_cut [2] (fun p wx => ∃ (β : Nat) (nn : Ct), p = .pointer (some ⟨β, 0, none⟩) ∧ Box wx β #[.int .i64 nn.li, .int .i64 nn.re, .int .i64 nn.ol, .int .i64 nn.fa, .int .i64 nn.en] ∧ nn = ctL cs y.nm y.im ∧ Below w.heap.size w wx)
  case first =>
    refine wp_region_held_drew (S := HeldW w γ #[.int .i64 v, .slice (some ⟨sb, so, none⟩) n0 sc, cv, .slice ba bs.length bc, .string A.sv, .int .i64 A.sn, .int .i64 A.cr, .int .i64 A.wa, .int .i64 A.cl, .bool A.sc, ev, .bool A.dp, .int .i64 pl] sb (so + pl * 13) y) (by kernel_rfl) (HeldW.drew HW.out.bx HSV.out hs3) (fun hHeld => ?_)
    refine wpAnyH_take (i := 0) (v := .pointer (some ⟨γ, 0, none⟩)) rfl (by kernel_rfl) (by kernel_rfl) (by kernel_rfl) (fun _ _ _ h => h) (Or.inl ⟨by rfl, fun W hW => by (try dsimp only at hW); go_simp⟩) hHeld ?_
    try simp only [Act.put, List.getElem_toArray, List.getElem_cons_zero, List.setIfInBounds_toArray, List.set_cons_zero, List.set_cons_succ]
    refine wpAnyH_take (i := 1) (v := .pointer (some ⟨γ, 0, none⟩)) rfl (by kernel_rfl) (by kernel_rfl) (by kernel_rfl) (fun _ _ _ h => h) (Or.inl ⟨by rfl, fun W hW => by (try dsimp only at hW); go_simp⟩) hHeld ?_
    try simp only [Act.put, List.getElem_toArray, List.getElem_cons_succ, List.getElem_cons_zero, List.setIfInBounds_toArray, List.set_cons_zero, List.set_cons_succ]
    refine wpAnyH_take (i := 2) (v := .pointer (some ⟨γ, 0, none⟩)) rfl (by kernel_rfl) (by kernel_rfl) (by kernel_rfl) (fun _ _ _ h => h) (Or.inl ⟨by rfl, fun W hW => by (try dsimp only at hW); go_simp⟩) hHeld ?_
    try simp only [Act.put, List.getElem_toArray, List.getElem_cons_succ, List.getElem_cons_zero, List.setIfInBounds_toArray, List.set_cons_zero, List.set_cons_succ]
    refine wpAnyH_take (i := 3) (v := .agg #[.int .i64 v, .slice (some ⟨sb, so, none⟩) n0 sc, cv, .slice ba bs.length bc]) rfl (by kernel_rfl) (by kernel_rfl) (by kernel_rfl) (fun _ _ _ h => h) (Or.inl ⟨by rfl, fun W hW => by (try dsimp only at hW); go_simp⟩) hHeld ?_
    try simp only [Act.put, List.getElem_toArray, List.getElem_cons_succ, List.getElem_cons_zero, List.setIfInBounds_toArray, List.set_cons_zero, List.set_cons_succ]
    refine wpAnyH_take (i := 4) (v := .pointer (some ⟨γ, 0, none⟩)) rfl (by kernel_rfl) (by kernel_rfl) (by kernel_rfl) (fun _ _ _ h => h) (Or.inl ⟨by rfl, fun W hW => by (try dsimp only at hW); go_simp⟩) hHeld ?_
    try simp only [Act.put, List.getElem_toArray, List.getElem_cons_succ, List.getElem_cons_zero, List.setIfInBounds_toArray, List.set_cons_zero, List.set_cons_succ]
    refine wpAnyH_ready (rs := [5, 9]) (by kernel_rfl) (by simp) ?_
    refine AllReadyH.cons rfl (fun K hK => ?_) ?_
    · go_simp
      go_wp2_with (go_at_call 106; refine (wkService_any γ sb so sc n0 pl _ (by rw [hHeld.cell 1]; rfl) (by rw [hHeld.cell 12]; rfl) hpn).mono ?_; rintro e w1 ⟨rfl, hbs⟩)
      refine hK.out _ _ (hHeld.on hbs) (fun hHx => ?_)
      clear hHeld
      have hHeld := hHx
      clear hK K hHx
      try simp only [Act.put, List.getElem_toArray, List.getElem_cons_succ, List.getElem_cons_zero, List.setIfInBounds_toArray, List.set_cons_zero, List.set_cons_succ]
      refine wpAnyH_take (i := 6) (v := .pointer (some ⟨sb, so + pl * 13, none⟩)) rfl (by kernel_rfl) (by kernel_rfl) (by kernel_rfl) (fun _ _ _ h => h) (Or.inl ⟨by rfl, fun W hW => by (try dsimp only at hW); go_simp⟩) hHeld ?_
      try simp only [Act.put, List.getElem_toArray, List.getElem_cons_succ, List.getElem_cons_zero, List.setIfInBounds_toArray, List.set_cons_zero, List.set_cons_succ]
      refine wpAnyH_take (i := 7) (v := .agg #[.string y.nm, .int .i64 y.ve, .bool y.gn, .int .i64 y.im, .int .i64 y.wa, .int .i64 y.dn, .int .i64 y.ov, .int .i64 y.nx, .int .i64 y.pr, .int .i64 y.ls, .int .i64 y.ms, .int .i64 y.ld, .int .i64 y.cl]) rfl (by kernel_rfl) (by kernel_rfl) (by kernel_rfl) (fun _ _ _ h => h) (Or.inl ⟨by rfl, fun W hW => by (try dsimp only at hW); go_simp⟩) hHeld ?_
      try simp only [Act.put, List.getElem_toArray, List.getElem_cons_succ, List.getElem_cons_zero, List.setIfInBounds_toArray, List.set_cons_zero, List.set_cons_succ]
      refine wpAnyH_ready (rs := [8, 9]) (by kernel_rfl) (by simp) ?_
      refine AllReadyH.cons rfl (fun K hK => ?_) ?_
      · go_simp
        go_wp2_with (go_at_call 134; refine (countIn_any c0 v _ _ _ cs y _ (HW.out.co.at.below hHeld.base) (by omega) HR.out HNU.out ⟨_, _, _, rfl⟩ ⟨_, _, _, rfl⟩).mono ?_; rintro e w2 ⟨nn, rfl, hnn, hbs⟩)
        refine hK.out _ _ (hHeld.on hbs) (fun hHx => ?_)
        clear hHeld
        have hHeld := hHx
        clear hK K hHx
        try simp only [Act.put, List.getElem_toArray, List.getElem_cons_succ, List.getElem_cons_zero, List.setIfInBounds_toArray, List.set_cons_zero, List.set_cons_succ]
        refine wpAnyH_ready (rs := [9]) (by kernel_rfl) (by simp) ?_
        refine AllReadyH.cons rfl (fun K hK => ?_) AllReadyH.nil
        have hH2 := hide hHeld
        go_simp
        refine hK.out _ _ (hHeld.on (one_al _ _)) (fun hHx => ?_)
        clear hHeld
        have hHeld := hHx
        clear hK K hHx
        try simp only [Act.put, List.getElem_toArray, List.getElem_cons_succ, List.getElem_cons_zero, List.setIfInBounds_toArray, List.set_cons_zero, List.set_cons_succ]
        refine wpAnyH_ready (rs := [10]) (by kernel_rfl) (by simp) ?_
        refine AllReadyH.cons rfl (fun K hK => ?_) AllReadyH.nil
        go_simp
        refine hK.out _ _ (hH2.out.on (one_al _ _)) (fun hHx => ?_)
        refine wpAnyH_done (by kernel_rfl) ?_ _
        have hHB := hHx.base
        clear hK K hHeld hHx
        go_wp2
        go_meet
        exact ⟨_, nn, rfl, Box.new _ _ _ _ rfl, hnn.out, hHB⟩
      refine AllReadyH.cons rfl (fun K hK => ?_) AllReadyH.nil
      have HBX := hide (Box.new w1 #[.int .i64 0, .int .i64 0, .int .i64 0, .int .i64 0, .int .i64 0] 101 _ rfl)
      have hβ : w.heap.size ≤ w1.heap.size := hHeld.base.size
      go_simp
      refine hK.out _ _ (hHeld.on (one_al _ _)) (fun hHx => ?_)
      clear hHeld
      have hHeld := hHx
      clear hK K hHx
      try simp only [Act.put, List.getElem_toArray, List.getElem_cons_succ, List.getElem_cons_zero, List.setIfInBounds_toArray, List.set_cons_zero, List.set_cons_succ]
      refine wpAnyH_ready (rs := [8]) (by kernel_rfl) (by simp) ?_
      refine AllReadyH.cons rfl (fun K hK => ?_) AllReadyH.nil
      go_simp
      go_wp2_with (go_at_call 134; refine (countIn_any c0 v _ _ _ cs y _ (HW.out.co.at.below hHeld.base) (by omega) HR.out HNU.out ⟨_, _, _, rfl⟩ ⟨_, _, _, rfl⟩).mono ?_; rintro e w2 ⟨nn, rfl, hnn, hbs⟩)
      replace HBX := hide (HBX.out.on hbs)
      refine hK.out _ _ (hHeld.on hbs) (fun hHx => ?_)
      clear hHeld
      have hHeld := hHx
      clear hK K hHx
      try simp only [Act.put, List.getElem_toArray, List.getElem_cons_succ, List.getElem_cons_zero, List.setIfInBounds_toArray, List.set_cons_zero, List.set_cons_succ]
      refine wpAnyH_ready (rs := [10]) (by kernel_rfl) (by simp) ?_
      refine AllReadyH.cons rfl (fun K hK => ?_) AllReadyH.nil
      have bc := HBX.out.cell
      have bf := HBX.out.free
      simp at bc
      go_simp
      refine hK.out _ _ (((((hHeld.set hβ 0 _).set hβ 1 _).set hβ 2 _).set hβ 3 _).set hβ 4 _) (fun hHx => ?_)
      refine wpAnyH_done (by kernel_rfl) ?_ _
      have hHB := hHx.base
      clear hK K hHeld bc bf hHx
      go_wp2
      go_meet
      exact ⟨_, nn, rfl, (((((HBX.out.set (k := 0) _ (by simp)).set (k := 1) _ (by simp)).set (k := 2) _ (by simp)).set (k := 3) _ (by simp)).set (k := 4) _ (by simp)), hnn.out, hHB⟩
    refine AllReadyH.cons rfl (fun K hK => ?_) AllReadyH.nil
    have HBX := hide (Box.drew (Box.new w #[.int .i64 0, .int .i64 0, .int .i64 0, .int .i64 0, .int .i64 0] 101 _ rfl))
    have hβ : w.heap.size ≤ w.heap.size := Nat.le_refl _
    go_simp
    refine hK.out _ _ (hHeld.on (one_al _ _)) (fun hHx => ?_)
    clear hHeld
    have hHeld := hHx
    clear hK K hHx
    try simp only [Act.put, List.getElem_toArray, List.getElem_cons_succ, List.getElem_cons_zero, List.setIfInBounds_toArray, List.set_cons_zero, List.set_cons_succ]
    refine wpAnyH_ready (rs := [5]) (by kernel_rfl) (by simp) ?_
    refine AllReadyH.cons rfl (fun K hK => ?_) AllReadyH.nil
    go_simp
    go_wp2_with (go_at_call 106; refine (wkService_any γ sb so sc n0 pl _ (by rw [hHeld.cell 1]; rfl) (by rw [hHeld.cell 12]; rfl) hpn).mono ?_; rintro e w1 ⟨rfl, hbs⟩)
    replace HBX := hide (HBX.out.on hbs)
    refine hK.out _ _ (hHeld.on hbs) (fun hHx => ?_)
    clear hHeld
    have hHeld := hHx
    clear hK K hHx
    try simp only [Act.put, List.getElem_toArray, List.getElem_cons_succ, List.getElem_cons_zero, List.setIfInBounds_toArray, List.set_cons_zero, List.set_cons_succ]
    refine wpAnyH_take (i := 6) (v := .pointer (some ⟨sb, so + pl * 13, none⟩)) rfl (by kernel_rfl) (by kernel_rfl) (by kernel_rfl) (fun _ _ _ h => h) (Or.inl ⟨by rfl, fun W hW => by (try dsimp only at hW); go_simp⟩) hHeld ?_
    try simp only [Act.put, List.getElem_toArray, List.getElem_cons_succ, List.getElem_cons_zero, List.setIfInBounds_toArray, List.set_cons_zero, List.set_cons_succ]
    refine wpAnyH_take (i := 7) (v := .agg #[.string y.nm, .int .i64 y.ve, .bool y.gn, .int .i64 y.im, .int .i64 y.wa, .int .i64 y.dn, .int .i64 y.ov, .int .i64 y.nx, .int .i64 y.pr, .int .i64 y.ls, .int .i64 y.ms, .int .i64 y.ld, .int .i64 y.cl]) rfl (by kernel_rfl) (by kernel_rfl) (by kernel_rfl) (fun _ _ _ h => h) (Or.inl ⟨by rfl, fun W hW => by (try dsimp only at hW); go_simp⟩) hHeld ?_
    try simp only [Act.put, List.getElem_toArray, List.getElem_cons_succ, List.getElem_cons_zero, List.setIfInBounds_toArray, List.set_cons_zero, List.set_cons_succ]
    refine wpAnyH_ready (rs := [8]) (by kernel_rfl) (by simp) ?_
    refine AllReadyH.cons rfl (fun K hK => ?_) AllReadyH.nil
    go_simp
    go_wp2_with (go_at_call 134; refine (countIn_any c0 v _ _ _ cs y _ (HW.out.co.at.below hHeld.base) (by omega) HR.out HNU.out ⟨_, _, _, rfl⟩ ⟨_, _, _, rfl⟩).mono ?_; rintro e w2 ⟨nn, rfl, hnn, hbs⟩)
    replace HBX := hide (HBX.out.on hbs)
    refine hK.out _ _ (hHeld.on hbs) (fun hHx => ?_)
    clear hHeld
    have hHeld := hHx
    clear hK K hHx
    try simp only [Act.put, List.getElem_toArray, List.getElem_cons_succ, List.getElem_cons_zero, List.setIfInBounds_toArray, List.set_cons_zero, List.set_cons_succ]
    refine wpAnyH_ready (rs := [10]) (by kernel_rfl) (by simp) ?_
    refine AllReadyH.cons rfl (fun K hK => ?_) AllReadyH.nil
    have bc := HBX.out.cell
    have bf := HBX.out.free
    simp at bc
    go_simp
    refine hK.out _ _ (((((hHeld.set hβ 0 _).set hβ 1 _).set hβ 2 _).set hβ 3 _).set hβ 4 _) (fun hHx => ?_)
    refine wpAnyH_done (by kernel_rfl) ?_ _
    have hHB := hHx.base
    clear hK K hHeld bc bf hHx
    go_wp2
    go_meet
    exact ⟨_, nn, rfl, (((((HBX.out.set (k := 0) _ (by simp)).set (k := 1) _ (by simp)).set (k := 2) _ (by simp)).set (k := 3) _ (by simp)).set (k := 4) _ (by simp)), hnn.out, hHB⟩
  case rest =>
  obtain ⟨β, nn, rfl, hbx, hnn, hbc⟩ := hcut
  have HBX := hide hbx
  have HNN := hide hnn
  have HB := hide hbc
  have HWc := hide (HW.out.on hbc)
  have hsv := HSV.out.below hbc hs3
  have HL1 := hide (ct_len (liveB y.nm) cs)
  have HL2 := hide (ct_len (endB y.nm) cs)
  have HS1 : Hid (six1 A y (ctL cs y.nm y.im) = (A.dp && (!y.gn || decide (0 < nn.li + nn.en)))) := by unfold Hid six1; rw [← HNN.out]
  have hnb : (0 ≤ nn.li ∧ nn.li ≤ 1000) ∧ (0 ≤ nn.en ∧ nn.en ≤ 1000) := by
    have a1 := HL1.out
    have a2 := HL2.out
    have e1 : nn.li = ct (liveB y.nm) cs := by rw [HNN.out]; rfl
    have e2 : nn.en = ct (endB y.nm) cs := by rw [HNN.out]; rfl
    omega
  clear hbx hnn HW HSV HR HNU HL1 HL2
  have HSVc := hide hsv
  have hs3c : sb < wc.heap.size := Nat.lt_of_lt_of_le hs3 hbc.size
  have z11 := HWc.out.bx.cell 11
  simp at z11
  clear hsv hbc
  cases hdp : A.dp with
  | false =>
    have H6 : Hid (six1 A y (ctL cs y.nm y.im) = false) := by unfold Hid; rw [HS1.out, hdp]; rfl
    rw [hdp] at z11
    clear hdp
    go_wp2_with (go_at_call 131; refine (goOn_yes 6 _).mono ?_; rintro e w3 ⟨rfl, rfl⟩)
    go_end0
    exact ⟨HB.out, Or.inr ⟨H6.out, rfl⟩⟩
  | true =>
    rw [hdp] at z11
    cases hgn : y.gn with
    | false =>
      have H6 : Hid (six1 A y (ctL cs y.nm y.im) = true) := by unfold Hid; rw [HS1.out, hdp, hgn]; rfl
      clear hdp
      go_wp2_with fail
      refine (wkService_any γ sb so sc n0 pl _ (by rw [HWc.out.bx.cell 1]; rfl) (by rw [HWc.out.bx.cell 12]; rfl) hpn).mono ?_
      rintro e w4 ⟨rfl, hb4⟩
      have d2 := (HSVc.out.below hb4 hs3c).c2
      rw [hgn] at d2
      go_wp2_with fail
      refine (goOn_no 6 _).mono ?_
      rintro e w3 ⟨rfl, rfl⟩
      exact ⟨rfl, bt HB.out hb4, Or.inl ⟨H6.out, rfl⟩⟩
    | true =>
      by_cases hle : nn.li + nn.en = 0
      · have H6 : Hid (six1 A y (ctL cs y.nm y.im) = false) := by
          unfold Hid; rw [HS1.out, hdp, hgn]
          show (true && (!true || decide (0 < nn.li + nn.en))) = false
          rw [decide_eq_false (by omega)]
          rfl
        clear hdp
        have l0 : nn.li = 0 := by omega
        have l4 : nn.en = 0 := by omega
        go_wp2_with fail
        refine (wkService_any γ sb so sc n0 pl _ (by rw [HWc.out.bx.cell 1]; rfl) (by rw [HWc.out.bx.cell 12]; rfl) hpn).mono ?_
        rintro e w4 ⟨rfl, hb4⟩
        have d2 := (HSVc.out.below hb4 hs3c).c2
        rw [hgn] at d2
        have b0 := (HBX.out.on hb4).cell 0
        have b4 := (HBX.out.on hb4).cell 4
        simp at b0 b4
        rw [l0] at b0
        rw [l4] at b4
        go_wp2_with fail
        refine (goOn_yes 6 _).mono ?_
        rintro e w3 ⟨rfl, rfl⟩
        go_wp2
        go_end0
        exact ⟨bt HB.out hb4, Or.inr ⟨H6.out, rfl⟩⟩
      · have H6 : Hid (six1 A y (ctL cs y.nm y.im) = true) := by
          unfold Hid; rw [HS1.out, hdp, hgn]
          show (true && (!true || decide (0 < nn.li + nn.en))) = true
          rw [decide_eq_true (by omega)]
          rfl
        clear hdp
        have hwr : IntKind.i64.wrap (nn.li + nn.en) = nn.li + nn.en := by rw [IntWalk.i64_left]; unfold wrap64; omega
        go_wp2_with fail
        refine (wkService_any γ sb so sc n0 pl _ (by rw [HWc.out.bx.cell 1]; rfl) (by rw [HWc.out.bx.cell 12]; rfl) hpn).mono ?_
        rintro e w4 ⟨rfl, hb4⟩
        have d2 := (HSVc.out.below hb4 hs3c).c2
        rw [hgn] at d2
        have b0 := (HBX.out.on hb4).cell 0
        have b4 := (HBX.out.on hb4).cell 4
        simp at b0 b4
        go_wp2_with fail
        rw [show (nn.li + nn.en == 0) = false by simpa using hle]
        refine (goOn_no 6 _).mono ?_
        rintro e w3 ⟨rfl, rfl⟩
        exact ⟨rfl, bt HB.out hb4, Or.inl ⟨H6.out, rfl⟩⟩

end
end Go.Proofs.YtaogpeebencnoaaGreatDoor
namespace Go.Proofs.YtaogpeebencnoaaGreatDoor
open Go.RowKit Go.Deep

section
variable (w0 w : World) (lo γ s0 s1 c0 c1 e0 e1 sb so sc pl n0 : Nat) (cv bv ev : Value) (A : Ac) (y : Sv) (v : Int) (ss : List Sv) (cs : List Cp) (bs : List Be)

set_option maxRecDepth 100000 in
set_option maxHeartbeats 16000000 in
theorem mustFit_any (hpl : pl < ss.length) (hpn : pl < n0) (hy : ss[pl] = y)
    (h : Wk w0 w lo γ s0 s1 c0 c1 e0 e1 #[.int .i64 v, .slice (some ⟨sb, so, none⟩) n0 sc, cv, bv, .string A.sv, .int .i64 A.sn, .int .i64 A.cr, .int .i64 A.wa, .int .i64 A.cl, .bool A.sc, ev, .bool A.dp, .int .i64 pl] (.slice (some ⟨sb, so, none⟩) n0 sc) cv bv ss cs bs) :
    Calls Tryz.prog 111 #[.pointer (some ⟨γ, 0, none⟩)] w fun e w' => Below w.heap.size w w' ∧ (((decide ((cs.length : Int) ≤ 200) && (decide (y.nx ≤ 1000000) && decide (v ≤ 1000000))) = false ∧ e = .panicked [{ v := haltV 7, recovered := false }]) ∨
      ((decide ((cs.length : Int) ≤ 200) && (decide (y.nx ≤ 1000000) && decide (v ≤ 1000000))) = true ∧ e = .returned (.tuple #[]))) := by
  have HW := hide h
  have HY := hide hy
  obtain ⟨ca, ck, hcv⟩ := h.co.form
  clear h hy
  obtain ⟨-, -, hs3, -, hs5⟩ := HW.out.so.oneAt hpl
  rw [HY.out] at hs5
  have HSV := hide hs5
  have z2 : w.cell? ⟨γ, 2, none⟩ = some (.slice ca cs.length ck) := by rw [HW.out.bx.cell 2, ← hcv]; rfl
  clear hs5 hcv
  by_cases h1 : (cs.length : Int) ≤ 200
  · by_cases h2 : y.nx ≤ 1000000
    · by_cases h3 : v ≤ 1000000
      · have HF : Hid ((decide ((cs.length : Int) ≤ 200) && (decide (y.nx ≤ 1000000) && decide (v ≤ 1000000))) = true) := by unfold Hid; rw [decide_eq_true h1, decide_eq_true h2, decide_eq_true h3]; rfl
        go_enter Tryz.func111, Tryz.ntmps111
        go_wp2_with fail
        refine (wkService_any γ sb so sc n0 pl _ (by rw [HW.out.bx.cell 1]; rfl) (by rw [HW.out.bx.cell 12]; rfl) hpn).mono ?_
        rintro e w4 ⟨rfl, hb4⟩
        have d7 := (HSV.out.below hb4 hs3).c7
        have z0 := (HW.out.bx.on hb4).cell 0
        simp at z0
        go_wp2_with fail
        refine (goOn_yes 7 _).mono ?_
        rintro e w3 ⟨rfl, rfl⟩
        go_wp2
        go_end0
        exact ⟨hb4, Or.inr ⟨HF.out, rfl⟩⟩
      · have HF : Hid ((decide ((cs.length : Int) ≤ 200) && (decide (y.nx ≤ 1000000) && decide (v ≤ 1000000))) = false) := by unfold Hid; rw [decide_eq_true h1, decide_eq_true h2, decide_eq_false h3]; rfl
        go_enter Tryz.func111, Tryz.ntmps111
        go_wp2_with fail
        refine (wkService_any γ sb so sc n0 pl _ (by rw [HW.out.bx.cell 1]; rfl) (by rw [HW.out.bx.cell 12]; rfl) hpn).mono ?_
        rintro e w4 ⟨rfl, hb4⟩
        have d7 := (HSV.out.below hb4 hs3).c7
        have z0 := (HW.out.bx.on hb4).cell 0
        simp at z0
        go_wp2_with fail
        rw [show decide (v ≤ 1000000) = false from decide_eq_false (by omega)]
        refine (goOn_no 7 _).mono ?_
        rintro e w3 ⟨rfl, rfl⟩
        exact ⟨rfl, hb4, Or.inl ⟨HF.out, rfl⟩⟩
    · have HF : Hid ((decide ((cs.length : Int) ≤ 200) && (decide (y.nx ≤ 1000000) && decide (v ≤ 1000000))) = false) := by unfold Hid; rw [decide_eq_true h1, decide_eq_false h2]; rfl
      go_enter Tryz.func111, Tryz.ntmps111
      go_wp2_with fail
      refine (wkService_any γ sb so sc n0 pl _ (by rw [HW.out.bx.cell 1]; rfl) (by rw [HW.out.bx.cell 12]; rfl) hpn).mono ?_
      rintro e w4 ⟨rfl, hb4⟩
      have d7 := (HSV.out.below hb4 hs3).c7
      have z0 := (HW.out.bx.on hb4).cell 0
      simp at z0
      go_wp2_with fail
      refine (goOn_no 7 _).mono ?_
      rintro e w3 ⟨rfl, rfl⟩
      exact ⟨rfl, hb4, Or.inl ⟨HF.out, rfl⟩⟩
  · have HF : Hid ((decide ((cs.length : Int) ≤ 200) && (decide (y.nx ≤ 1000000) && decide (v ≤ 1000000))) = false) := by unfold Hid; rw [decide_eq_false h1]; rfl
    go_enter Tryz.func111, Tryz.ntmps111
    go_wp2_with (go_at_call 131; refine (goOn_no 7 _).mono ?_; rintro e w3 ⟨rfl, rfl⟩)
    exact ⟨rfl, Below.refl _ _, Or.inl ⟨HF.out, rfl⟩⟩
end
end Go.Proofs.YtaogpeebencnoaaGreatDoor
namespace Go.Proofs.YtaogpeebencnoaaGreatDoor
open Go.RowKit Go.Deep

abbrev HeldC (γ : Nat) (cs : Array Value) (W : World) : Prop := (∀ i, W.cell? ⟨γ, i, none⟩ = cs[i]?) ∧ Hid True
theorem HeldC.touch {γ lo hi : Nat} {cs : Array Value} {W W1 W' : World} (h : HeldC γ cs W1) (ht : Touch lo hi W W') (hl : γ < W.heap.size) (ho : γ < lo ∨ hi ≤ γ) (e : ∀ i, W.cell? ⟨γ, i, none⟩ = W1.cell? ⟨γ, i, none⟩ := by intro i; rfl) : HeldC γ cs W' :=
  ⟨fun i => (ht.cell (p := ⟨γ, i, none⟩) hl ho).trans ((e i).trans (h.1 i)), trivial⟩
section
variable (w0 w : World) (lo γ s0 s1 c0 c1 e0 e1 sb so sc pl : Nat) (cv bv ev : Value) (A : Ac) (v : Int) (ss : List Sv) (cs : List Cp) (bs : List Be)

set_option maxRecDepth 100000 in
set_option maxHeartbeats 16000000 in
theorem drop_any (hpl : pl < ss.length) (hl : ss.length ≤ 1000)
    (h : Wk w0 w lo γ s0 s1 c0 c1 e0 e1 #[.int .i64 v, .slice (some ⟨sb, so, none⟩) ss.length sc, cv, bv, .string A.sv, .int .i64 A.sn, .int .i64 A.cr, .int .i64 A.wa, .int .i64 A.cl, .bool A.sc, ev, .bool A.dp, .int .i64 pl] (.slice (some ⟨sb, so, none⟩) ss.length sc) cv bv ss cs bs) :
    Calls Tryz.prog 112 #[.pointer (some ⟨γ, 0, none⟩)] w fun e w' => e = .returned (.tuple #[]) ∧ Touch lo (γ + 1) w w' ∧
      Wk w0 w' lo γ s0 s1 c0 c1 e0 e1 #[.int .i64 v, .slice (some ⟨sb, so, none⟩) (if A.dp then ss.eraseIdx pl else ss).length sc, cv, bv, .string A.sv, .int .i64 A.sn, .int .i64 A.cr, .int .i64 A.wa, .int .i64 A.cl, .bool A.sc, ev, .bool A.dp, .int .i64 pl] (.slice (some ⟨sb, so, none⟩) (if A.dp then ss.eraseIdx pl else ss).length sc) cv bv (if A.dp then ss.eraseIdx pl else ss) cs bs := by
  have HW := hide h
  clear h
  have z11 := HW.out.bx.cell 11
  simp at z11
  cases hdp : A.dp with
  | false =>
    rw [hdp] at z11 HW
    clear hdp
    go_enter Tryz.func112, Tryz.ntmps112
    go_wp2
    go_end0
    exact ⟨rfl, Touch.refl _ _ _, HW.out⟩
  | true =>
    rw [hdp] at z11 HW
    clear hdp
    have m4 : IntKind.wrap .i64 ((pl : Int) + 1) = (pl : Int) + 1 := by rw [IntKind.wrap_i64]; omega
    go_enter Tryz.func112, Tryz.ntmps112
    go_wp2_with fail
    clear z11
    refine Code.wp_mono NoPanic.imp ?_
    refine wp_region_E (S := HeldC γ #[.int .i64 v, .slice (some ⟨sb, so, none⟩) ss.length sc, cv, bv, .string A.sv, .int .i64 A.sn, .int .i64 A.cr, .int .i64 A.wa, .int .i64 A.cl, .bool A.sc, ev, .bool true, .int .i64 pl]) 19 (by kernel_rfl) ⟨HW.out.bx.cell, trivial⟩ (fun hHeld => ?_)
    refine wpAnyE_take [16, 17, 18, 19] (i := 0) (v := .pointer (some ⟨γ, 0, none⟩)) rfl (by kernel_rfl) (by kernel_rfl) (by kernel_rfl) (by kernel_rfl) (fun _ _ _ h => h) (Or.inl ⟨by rfl, fun W hW => by obtain ⟨h1, h3⟩ := hW; go_simp⟩) hHeld ?_
    try simp only [Act.put, List.getElem_toArray, List.getElem_cons_zero, List.setIfInBounds_toArray, List.set_cons_zero, List.set_cons_succ]
    refine wpAnyE_take [2, 3, 4, 5, 15, 19] (i := 1) (v := .pointer (some ⟨γ, 0, none⟩)) rfl (by kernel_rfl) (by kernel_rfl) (by kernel_rfl) (by kernel_rfl) (fun _ _ _ h => h) (Or.inl ⟨by rfl, fun W hW => by obtain ⟨h1, h3⟩ := hW; go_simp⟩) hHeld ?_
    try simp only [Act.put, List.getElem_toArray, List.getElem_cons_succ, List.getElem_cons_zero, List.setIfInBounds_toArray, List.set_cons_zero, List.set_cons_succ]
    refine wpAnyE_take [3, 4, 5, 15, 19] (i := 2) (v := .pointer (some ⟨γ, 0, none⟩)) rfl (by kernel_rfl) (by kernel_rfl) (by kernel_rfl) (by kernel_rfl) (fun _ _ _ h => h) (Or.inl ⟨by rfl, fun W hW => by obtain ⟨h1, h3⟩ := hW; go_simp⟩) hHeld ?_
    try simp only [Act.put, List.getElem_toArray, List.getElem_cons_succ, List.getElem_cons_zero, List.setIfInBounds_toArray, List.set_cons_zero, List.set_cons_succ]
    refine wpAnyE_take [4, 5, 15, 19] (i := 3) (v := .pointer (some ⟨γ, 0, none⟩)) rfl (by kernel_rfl) (by kernel_rfl) (by kernel_rfl) (by kernel_rfl) (fun _ _ _ h => h) (Or.inl ⟨by rfl, fun W hW => by obtain ⟨h1, h3⟩ := hW; go_simp⟩) hHeld ?_
    try simp only [Act.put, List.getElem_toArray, List.getElem_cons_succ, List.getElem_cons_zero, List.setIfInBounds_toArray, List.set_cons_zero, List.set_cons_succ]
    refine wpAnyE_take [5, 15, 19] (i := 4) (v := .pointer (some ⟨γ, 1, none⟩)) rfl (by kernel_rfl) (by kernel_rfl) (by kernel_rfl) (by kernel_rfl) (fun _ _ _ h => h) (Or.inl ⟨by rfl, fun W hW => by obtain ⟨h1, h3⟩ := hW; go_simp⟩) hHeld ?_
    try simp only [Act.put, List.getElem_toArray, List.getElem_cons_succ, List.getElem_cons_zero, List.setIfInBounds_toArray, List.set_cons_zero, List.set_cons_succ]
    refine wpAnyE_take [15, 19] (i := 5) (v := .slice (some ⟨sb, so, none⟩) ss.length sc) rfl (by kernel_rfl) (by kernel_rfl) (by kernel_rfl) (by kernel_rfl) (fun _ _ _ h => h) (Or.inl ⟨by rfl, fun W hW => by obtain ⟨h1, h3⟩ := hW; go_simp⟩) hHeld ?_
    try simp only [Act.put, List.getElem_toArray, List.getElem_cons_succ, List.getElem_cons_zero, List.setIfInBounds_toArray, List.set_cons_zero, List.set_cons_succ]
    refine wpAnyE_take [7, 8, 9, 15, 19] (i := 6) (v := .pointer (some ⟨γ, 0, none⟩)) rfl (by kernel_rfl) (by kernel_rfl) (by kernel_rfl) (by kernel_rfl) (fun _ _ _ h => h) (Or.inl ⟨by rfl, fun W hW => by obtain ⟨h1, h3⟩ := hW; go_simp⟩) hHeld ?_
    try simp only [Act.put, List.getElem_toArray, List.getElem_cons_succ, List.getElem_cons_zero, List.setIfInBounds_toArray, List.set_cons_zero, List.set_cons_succ]
    refine wpAnyE_take [8, 9, 15, 19] (i := 7) (v := .pointer (some ⟨γ, 0, none⟩)) rfl (by kernel_rfl) (by kernel_rfl) (by kernel_rfl) (by kernel_rfl) (fun _ _ _ h => h) (Or.inl ⟨by rfl, fun W hW => by obtain ⟨h1, h3⟩ := hW; go_simp⟩) hHeld ?_
    try simp only [Act.put, List.getElem_toArray, List.getElem_cons_succ, List.getElem_cons_zero, List.setIfInBounds_toArray, List.set_cons_zero, List.set_cons_succ]
    refine wpAnyE_take [9, 15, 19] (i := 8) (v := .pointer (some ⟨γ, 12, none⟩)) rfl (by kernel_rfl) (by kernel_rfl) (by kernel_rfl) (by kernel_rfl) (fun _ _ _ h => h) (Or.inl ⟨by rfl, fun W hW => by obtain ⟨h1, h3⟩ := hW; go_simp⟩) hHeld ?_
    try simp only [Act.put, List.getElem_toArray, List.getElem_cons_succ, List.getElem_cons_zero, List.setIfInBounds_toArray, List.set_cons_zero, List.set_cons_succ]
    refine wpAnyE_take [15, 19] (i := 9) (v := .int .i64 pl) rfl (by kernel_rfl) (by kernel_rfl) (by kernel_rfl) (by kernel_rfl) (fun _ _ _ h => h) (Or.inl ⟨by rfl, fun W hW => by obtain ⟨h1, h3⟩ := hW; go_simp⟩) hHeld ?_
    try simp only [Act.put, List.getElem_toArray, List.getElem_cons_succ, List.getElem_cons_zero, List.setIfInBounds_toArray, List.set_cons_zero, List.set_cons_succ]
    refine wpAnyE_take [11, 12, 13, 14, 15, 19] (i := 10) (v := .pointer (some ⟨γ, 0, none⟩)) rfl (by kernel_rfl) (by kernel_rfl) (by kernel_rfl) (by kernel_rfl) (fun _ _ _ h => h) (Or.inl ⟨by rfl, fun W hW => by obtain ⟨h1, h3⟩ := hW; go_simp⟩) hHeld ?_
    try simp only [Act.put, List.getElem_toArray, List.getElem_cons_succ, List.getElem_cons_zero, List.setIfInBounds_toArray, List.set_cons_zero, List.set_cons_succ]
    refine wpAnyE_take [12, 13, 14, 15, 19] (i := 11) (v := .pointer (some ⟨γ, 0, none⟩)) rfl (by kernel_rfl) (by kernel_rfl) (by kernel_rfl) (by kernel_rfl) (fun _ _ _ h => h) (Or.inl ⟨by rfl, fun W hW => by obtain ⟨h1, h3⟩ := hW; go_simp⟩) hHeld ?_
    try simp only [Act.put, List.getElem_toArray, List.getElem_cons_succ, List.getElem_cons_zero, List.setIfInBounds_toArray, List.set_cons_zero, List.set_cons_succ]
    refine wpAnyE_take [13, 14, 15, 19] (i := 12) (v := .pointer (some ⟨γ, 12, none⟩)) rfl (by kernel_rfl) (by kernel_rfl) (by kernel_rfl) (by kernel_rfl) (fun _ _ _ h => h) (Or.inl ⟨by rfl, fun W hW => by obtain ⟨h1, h3⟩ := hW; go_simp⟩) hHeld ?_
    try simp only [Act.put, List.getElem_toArray, List.getElem_cons_succ, List.getElem_cons_zero, List.setIfInBounds_toArray, List.set_cons_zero, List.set_cons_succ]
    refine wpAnyE_take [14, 15, 19] (i := 13) (v := .int .i64 pl) rfl (by kernel_rfl) (by kernel_rfl) (by kernel_rfl) (by kernel_rfl) (fun _ _ _ h => h) (Or.inl ⟨by rfl, fun W hW => by obtain ⟨h1, h3⟩ := hW; go_simp⟩) hHeld ?_
    try simp only [Act.put, List.getElem_toArray, List.getElem_cons_succ, List.getElem_cons_zero, List.setIfInBounds_toArray, List.set_cons_zero, List.set_cons_succ]
    refine wpAnyE_take [15, 19] (i := 14) (v := .int .i64 ((pl : Int) + 1)) rfl (by kernel_rfl) (by kernel_rfl) (by kernel_rfl) (by kernel_rfl) (fun _ _ _ h => h) (Or.inl ⟨by rfl, fun W hW => by obtain ⟨h1, h3⟩ := hW; go_simp⟩) hHeld ?_
    try simp only [Act.put, List.getElem_toArray, List.getElem_cons_succ, List.getElem_cons_zero, List.setIfInBounds_toArray, List.set_cons_zero, List.set_cons_succ]
    refine wpAnyE_one (i := 15) (by kernel_rfl) rfl (fun K hK => ?_)
    go_simp
    refine (deleteSvs_any s0 s1 sb so sc pl ss _ (HW.out.so.below ((Below.refl _ _).drew)) hpl (by omega)).mono ?_
    rintro e w1 ⟨rfl, ht1, ho1⟩
    have HT1 := hide ((Touch.below ((Below.refl _ _).drew)).trans ht1)
    have HO1 := hide ho1
    clear ht1 ho1
    refine hK.out _ _ (fun _ => HeldC.touch hHeld HT1.out HW.out.bx.lt (by have := HW.out.az; omega)) (fun hHx => ?_)
    clear hHeld
    have hHeld := hHx (by decide)
    clear hK K hHx
    try simp only [Act.put, List.getElem_toArray, List.getElem_cons_succ, List.getElem_cons_zero, List.setIfInBounds_toArray, List.set_cons_zero, List.set_cons_succ]
    refine wpAnyE_take [17, 18, 19] (i := 16) (v := .pointer (some ⟨γ, 0, none⟩)) rfl (by kernel_rfl) (by kernel_rfl) (by kernel_rfl) (by kernel_rfl) (fun _ _ _ h => h) (Or.inl ⟨by rfl, fun W hW => by obtain ⟨h1, h3⟩ := hW; go_simp⟩) hHeld ?_
    try simp only [Act.put, List.getElem_toArray, List.getElem_cons_succ, List.getElem_cons_zero, List.setIfInBounds_toArray, List.set_cons_zero, List.set_cons_succ]
    refine wpAnyE_take [18, 19] (i := 17) (v := .pointer (some ⟨γ, 0, none⟩)) rfl (by kernel_rfl) (by kernel_rfl) (by kernel_rfl) (by kernel_rfl) (fun _ _ _ h => h) (Or.inl ⟨by rfl, fun W hW => by obtain ⟨h1, h3⟩ := hW; go_simp⟩) hHeld ?_
    try simp only [Act.put, List.getElem_toArray, List.getElem_cons_succ, List.getElem_cons_zero, List.setIfInBounds_toArray, List.set_cons_zero, List.set_cons_succ]
    refine wpAnyE_take [19] (i := 18) (v := .pointer (some ⟨γ, 1, none⟩)) rfl (by kernel_rfl) (by kernel_rfl) (by kernel_rfl) (by kernel_rfl) (fun _ _ _ h => h) (Or.inl ⟨by rfl, fun W hW => by obtain ⟨h1, h3⟩ := hW; go_simp⟩) hHeld ?_
    try simp only [Act.put, List.getElem_toArray, List.getElem_cons_succ, List.getElem_cons_zero, List.setIfInBounds_toArray, List.set_cons_zero, List.set_cons_succ]
    have hz : w1.cell? ⟨γ, 1, none⟩ = some (.slice (some ⟨sb, so, none⟩) ss.length sc) := by rw [hHeld.1 1]; rfl
    have hzf : ∀ i, w1.frozen? ⟨γ, i, none⟩ = false := fun i => (HT1.out.frozen (p := ⟨γ, i, none⟩) HW.out.bx.lt (by have := HW.out.az; simp only []; omega)).trans (HW.out.bx.free i)
    refine wpAnyE_one (i := 19) (by kernel_rfl) rfl (fun K hK => ?_)
    go_simp
    refine hK.out _ _ (fun h => absurd rfl h) (fun _ => ?_)
    clear hK K hHeld
    refine wpAnyE_done (by kernel_rfl) ?_ _
    refine NoPanic.normal ?_
    have hel : pl + (ss.length - (pl + 1)) = (ss.eraseIdx pl).length := by rw [List.length_eraseIdx_of_lt hpl]; omega
    have az := HW.out.az
    have hl2 := HW.out.bx.lt
    have hs2 := HW.out.hb.size
    have ht := HT1.out
    have hk1 : Wk w0 w1 lo γ s0 s1 c0 c1 e0 e1 #[.int .i64 v, .slice (some ⟨sb, so, none⟩) ss.length sc, cv, bv, .string A.sv, .int .i64 A.sn, .int .i64 A.cr, .int .i64 A.wa, .int .i64 A.cl, .bool A.sc, ev, .bool true, .int .i64 pl] (.slice (some ⟨sb, so, none⟩) (ss.eraseIdx pl).length sc) cv bv (ss.eraseIdx pl) cs bs :=
      ⟨HW.out.hb.trans (((ht.wide (lo' := lo) (hi' := γ + 1) (by omega) (by omega)).under (by omega)).mono (by omega)), HW.out.bx.touch ht (by omega), HO1.out, HW.out.co.touch ht (by omega), HW.out.eo.touch ht (by omega), Nat.le_trans HW.out.ch ht.size, HW.out.sh.touch ht (by omega), az⟩
    obtain ⟨hk2, ht2⟩ := hk1.setB (k := 1) (.slice (some ⟨sb, so, none⟩) (ss.eraseIdx pl).length sc) (by simp)
    have HK2 := hide hk2
    have HT2 := hide ((ht.wide (lo' := lo) (hi' := γ + 1) (by omega) (by omega)).trans ht2)
    rw [hel]
    clear hk1 hk2 ht2 ht hz hzf
    generalize w1.setCell _ _ = W2 at *
    go_wp2
    go_end0
    exact ⟨rfl, HT2.out, HK2.out⟩
end
end Go.Proofs.YtaogpeebencnoaaGreatDoor
