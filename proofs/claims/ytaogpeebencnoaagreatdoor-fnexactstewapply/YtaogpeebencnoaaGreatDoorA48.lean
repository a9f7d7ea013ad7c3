import Derived.Test.YtaogpeebencnoaaGreatDoorA47
namespace Go.Proofs.YtaogpeebencnoaaGreatDoor
open Go.RowKit Go.Deep

theorem fieldLi (n2 : Ct) (W : World) : (Instr.field 101 (.agg #[.int .i64 n2.li, .int .i64 n2.re, .int .i64 n2.ol, .int .i64 n2.fa, .int .i64 n2.en]) 0).run Tryz.prog W = .ok (.int .i64 n2.li) W := by kernel_rfl
section
variable (w0 w : World) (lo γ s0 s1 c0 c1 e0 e1 sb so sc pl : Nat) (cv bv ev : Value) (A : Ac) (y : Sv) (v : Int) (ss : List Sv) (cs : List Cp) (bs : List Be)

/-- behind a create: what lies in memory -/
def Cre (w0 w w' : World) (lo γ s0 s1 _c0 _c1 e0 e1 sb so sc pl : Nat) (_cv bv ev : Value) (A : Ac) (y : Sv) (v : Int) (ss : List Sv) (cs : List Cp) (bs : List Be) : Prop :=
  ∃ (cv' : Value) (c0' c1' : Nat), (c1' ≤ γ ∨ w.heap.size ≤ c0') ∧ Wk w0 w' lo γ s0 s1 c0' c1' e0 e1 #[.int .i64 v, .slice (some ⟨sb, so, none⟩) ss.length sc, cv', bv, .string A.sv, .int .i64 A.sn, .int .i64 A.cr, .int .i64 A.wa, .int .i64 A.cl, .bool A.sc, ev, .bool A.dp, .int .i64 pl] (.slice (some ⟨sb, so, none⟩) ss.length sc) cv' bv (ss.set pl { y with nx := y.nx + A.cr }) (crF y.nm v y.im A.cr.toNat y.nx cs) bs ∧
    risR aheadB (crF y.nm v y.im A.cr.toNat y.nx cs) = true ∧ (∀ i (h : i < (crF y.nm v y.im A.cr.toNat y.nx cs).length), 1 ≤ ((crF y.nm v y.im A.cr.toNat y.nx cs)[i]'h).nu) ∧ (ctL (crF y.nm v y.im A.cr.toNat y.nx cs) y.nm y.im).li = (ctL cs y.nm y.im).li + A.cr ∧ (ctL (crF y.nm v y.im A.cr.toNat y.nx cs) y.nm y.im).en = (ctL cs y.nm y.im).en

theorem Cre.on {w0 w w1 w' : World} {lo γ s0 s1 c0 c1 e0 e1 sb so sc pl : Nat} {cv bv ev : Value} {A : Ac} {y : Sv} {v : Int} {ss : List Sv} {cs : List Cp} {bs : List Be} (h : Cre w0 w w1 lo γ s0 s1 c0 c1 e0 e1 sb so sc pl cv bv ev A y v ss cs bs) (hb : Below w1.heap.size w1 w') : Cre w0 w w' lo γ s0 s1 c0 c1 e0 e1 sb so sc pl cv bv ev A y v ss cs bs := by
  obtain ⟨cv', c0', c1', h0, h1, h2⟩ := h
  exact ⟨cv', c0', c1', h0, h1.on hb, h2⟩
set_option maxRecDepth 100000 in
set_option maxHeartbeats 16000000 in
theorem create_any (hpl : pl < ss.length) (hy : ss[pl] = y) (hcr : 0 ≤ A.cr ∧ A.cr ≤ 20) (hnx : 1 ≤ y.nx ∧ y.nx ≤ 1000000) (hwo : (0 ≤ y.wa ∧ y.wa ≤ 10) ∧ (0 ≤ y.ov ∧ y.ov ≤ 10))
    (h : Wk w0 w lo γ s0 s1 c0 c1 e0 e1 #[.int .i64 v, .slice (some ⟨sb, so, none⟩) ss.length sc, cv, bv, .string A.sv, .int .i64 A.sn, .int .i64 A.cr, .int .i64 A.wa, .int .i64 A.cl, .bool A.sc, ev, .bool A.dp, .int .i64 pl] (.slice (some ⟨sb, so, none⟩) ss.length sc) cv bv ss cs bs)
    (hc1 : c1 ≤ γ) (hr : risR aheadB cs = true) (hnu : ∀ i (h : i < cs.length), 1 ≤ cs[i].nu) (hl : cs.length ≤ 200) (hlt : ∀ d ∈ cs, d.se = y.nm → d.nu < y.nx) :
    Calls Tryz.prog 109 #[.pointer (some ⟨γ, 0, none⟩)] w fun e w' => Touch lo (γ + 1) w w' ∧ ((six2 A y (ctL cs y.nm y.im).li = true ∧ e = .panicked [{ v := haltV 6, recovered := false }]) ∨
      (six2 A y (ctL cs y.nm y.im).li = false ∧ e = .returned (.tuple #[]) ∧ Cre w0 w w' lo γ s0 s1 c0 c1 e0 e1 sb so sc pl cv bv ev A y v ss cs bs)) := by
  have HW := hide h
  have HY := hide hy
  have HR := hide hr
  have HNU := hide hnu
  have HLT := hide hlt
  obtain ⟨ba, bc, rfl⟩ := h.eo.form
  have hcv : ∃ a n k, cv = .slice a n k := by
    obtain ⟨a, k, e⟩ := h.co.form
    exact ⟨a, _, k, e⟩
  clear h hy hr hnu hlt
  have p := HW.out.bx.cell 6
  simp at p
  by_cases hz : A.cr = 0
  · have H6 : Hid (six2 A y (ctL cs y.nm y.im).li = false) := by unfold Hid six2; rw [hz]; rfl
    have HC : Hid (Cre w0 w w lo γ s0 s1 c0 c1 e0 e1 sb so sc pl cv (.slice ba bs.length bc) ev A y v ss cs bs) := by
      have e1 : ({ y with nx := y.nx + A.cr } : Sv) = y := by rw [hz, Int.add_zero]
      have e2 : crF y.nm v y.im A.cr.toNat y.nx cs = cs := by rw [hz]; rfl
      unfold Hid Cre
      rw [e1, e2]
      exact ⟨cv, c0, c1, Or.inl hc1, HW.out.self hpl HY.out, HR.out, HNU.out, by rw [hz]; omega, rfl⟩
    rw [hz] at p
    go_enter Tryz.func109, Tryz.ntmps109
    go_wp2
    refine bodyPost_ret (results_none rfl _ _ _) rfl ?_
    exact ⟨Touch.refl _ _ _, Or.inr ⟨H6.out, rfl, HC.out⟩⟩
  have hp0 : 0 < A.cr := by omega
  have H60 : Hid (six2 A y (ctL cs y.nm y.im).li = (y.gn || decide (y.wa + y.ov < (ctL cs y.nm y.im).li + A.cr))) := by unfold Hid six2; rw [decide_eq_true hp0]; rfl
  obtain ⟨-, -, hs3, -, hs5⟩ := HW.out.so.oneAt hpl
  rw [HY.out] at hs5
  have HSV := hide hs5
  clear hs5
  cases hgn : y.gn with
  | true =>
    have H6 : Hid (six2 A y (ctL cs y.nm y.im).li = true) := by unfold Hid; rw [H60.out, hgn]; rfl
    go_enter Tryz.func109, Tryz.ntmps109
    go_wp2_with (first | (go_at_call 106; refine (wkService_any γ sb so sc ss.length pl _ (by rw [HW.out.bx.cell 1]; rfl) (by rw [HW.out.bx.cell 12]; rfl) hpl).mono ?_; rintro e wc ⟨rfl, hb1⟩; have d2 := (HSV.out.below hb1 hs3).c2; rw [hgn] at d2) | (go_at_call 131; refine (goOn_no 6 _).mono ?_; rintro e w3 ⟨rfl, rfl⟩))
    have HTc : Hid (Touch lo (γ + 1) w w3) := Touch.below hb1
    exact ⟨rfl, HTc.out, Or.inl ⟨H6.out, rfl⟩⟩
  | false =>
    rw [hgn, Bool.false_or] at H60
    go_enter Tryz.func109, Tryz.ntmps109
    go_wp2_with (first | (go_at_call 106; refine (wkService_any γ sb so sc ss.length pl _ (by rw [HW.out.bx.cell 1]; rfl) (by rw [HW.out.bx.cell 12]; rfl) hpl).mono ?_; rintro e wc ⟨rfl, hb1⟩; have d2 := (HSV.out.below hb1 hs3).c2; rw [hgn] at d2) | (go_at_call 131; refine (goOn_yes 6 _).mono ?_; rintro e w3 ⟨rfl, rfl⟩))
    have HWc := hide (HW.out.on hb1)
    have HTc : Hid (Touch lo (γ + 1) w w3) := Touch.below hb1
    have HSC := hide (HSV.out.below hb1 hs3)
    replace hs3 : sb < w3.heap.size := Nat.lt_of_lt_of_le hs3 hb1.size
    clear d2 hgn hb1 HW HSV p
    obtain ⟨q, hq⟩ := spot_is HR.out (tgtN y.nm y.nx)
    have HQ := hide hq
    have hql := hq.le
    clear hq
    go_cut [3] (fun c wx => c = .int .i64 q ∧ Below w3.heap.size w3 wx)
    case first =>
      have xn : Nonempty (In (Up w3)) := ⟨⟨w3, Below.refl _ _⟩⟩
      have xs := fun (Y : In (Up w3)) => in_self Y
      have p0 : ∀ Y : In (Up w3), _ := fun Y => Up.cell Y (HWc.out.bx.cell 0)
      have p1 : ∀ Y : In (Up w3), _ := fun Y => Up.cell Y (HWc.out.bx.cell 1)
      have p2 : ∀ Y : In (Up w3), _ := fun Y => Up.cell Y (HWc.out.bx.cell 2)
      have p3 : ∀ Y : In (Up w3), _ := fun Y => Up.cell Y (HWc.out.bx.cell 3)
      have f0 : ∀ Y : In (Up w3), _ := fun Y => Up.cell Y HSC.out.c0
      have f7 : ∀ Y : In (Up w3), _ := fun Y => Up.cell Y HSC.out.c7
      simp at p0 p1 p2 p3
      refine wp_region_class (Up w3) (by kernel_rfl) (by kernel_rfl) ((Below.refl _ _).drew) ?_
      repeat (go_big_quiet_step ((go_at_call 104; rename_i Y; exact (placeSpot_any v _ _ _ cs y.nm y.nx q _ (HWc.out.co.at.below Y.h) (by omega) HR.out HQ.out ⟨_, _, _, rfl⟩ ⟨_, _, _, rfl⟩).mono fun _ _ h => ⟨h.1, Up.next Y h.2⟩)))
      refine wpQuiet_nil ?_
      intro wn hw
      obtain ⟨Y, hY⟩ := hw
      have HWN : Below w3.heap.size w3 wn := by rw [hY]; exact Y.h
      clear hY Y p0 p1 p2 p3 f0 f7 xs xn
      go_wp2
      go_meet
      exact ⟨rfl, HWN⟩
    case rest =>
    obtain ⟨rfl, hbc⟩ := hcut
    have HW1 := hide (HWc.out.on hbc)
    have HT1 := hide (HTc.out.trans (Touch.below hbc))
    replace HSC := hide (HSC.out.below hbc hs3)
    have hs3' : sb < wc.heap.size := Nat.lt_of_lt_of_le hs3 hbc.size
    clear hbc HWc HTc hs3
    have p := HW1.out.bx.cell 6
    simp at p
    go_wp2_with fail
    clear p
    obtain ⟨i1, hi1, hz1, hy1, hx1⟩ := info_parts Tryz.info92
    have HI1 := hide (And.intro hi1 (And.intro hz1 (And.intro hy1 hx1)))
    clear hi1 hz1 hy1 hx1
    obtain ⟨n, hn⟩ : ∃ n, n = wc.heap.size := ⟨_, rfl⟩
    have hγn : γ < n := by rw [hn]; exact HW1.out.bx.lt
    have hwn : w.heap.size ≤ n := by rw [hn]; exact HT1.out.size
    rw [← hn] at hs3'
    go_loopw [5, 41] (fun m i wr => ∃ j : Nat, i = .int .i64 j ∧ (j : Int) ≤ A.cr ∧ wr.ownsRow n 92 7 m j (flatV cpL (madeL y.nm v y.im j y.nx)) ∧ n ≤ wr.heap.size ∧ Touch lo (γ + 1) w wr ∧ Wk w0 wr lo γ s0 s1 c0 c1 e0 e1 #[.int .i64 v, .slice (some ⟨sb, so, none⟩) ss.length sc, cv, .slice ba bs.length bc, .string A.sv, .int .i64 A.sn, .int .i64 A.cr, .int .i64 A.wa, .int .i64 A.cl, .bool A.sc, ev, .bool A.dp, .int .i64 pl] (.slice (some ⟨sb, so, none⟩) ss.length sc) cv (.slice ba bs.length bc) (ss.set pl { y with nx := y.nx + (j : Int) }) cs bs) (fun _ i _ => A.cr.toNat - (intOf i).toNat)
    case atStart =>
      refine ⟨0, rfl, by omega, ⟨rfl, Or.inl ⟨rfl, rfl⟩⟩, by omega, HT1.out, ?_⟩
      have e1 : ({ y with nx := y.nx + ((0 : Nat) : Int) } : Sv) = y := by simp
      rw [e1]
      exact HW1.out.self hpl HY.out
    case round =>
      obtain ⟨j, rfl, hj, hown, hnr, ht, hk⟩ := hrel
      have HOW := hide hown
      have HT := hide ht
      have HW := hide hk
      clear hown ht hk
      by_cases hlt : (j : Int) < A.cr
      · obtain ⟨yj, hyj⟩ : ∃ z : Sv, z = { y with nx := y.nx + (j : Int) } := ⟨_, rfl⟩
        rw [← hyj] at HW
        have HYJ : Hid (yj.nm = y.nm ∧ yj.nx = y.nx + (j : Int) ∧ yj.im = y.im ∧ ({ yj with nx := yj.nx + 1 } : Sv) = { y with nx := y.nx + ((j + 1 : Nat) : Int) }) := by
          unfold Hid; subst hyj; exact ⟨rfl, rfl, rfl, by simp; omega⟩
        clear hyj
        have hpl2 : pl < (ss.set pl yj).length := by rw [List.length_set]; exact hpl
        have hge : (ss.set pl yj)[pl] = yj := by simp
        obtain ⟨-, -, -, hfz, hs5⟩ := HW.out.so.oneAt hpl2
        rw [hge] at hs5
        have HSV := hide hs5
        have HFZ := hide hfz
        clear hs5 hfz
        go_wp2_with fail
        refine wp_region_held_drew (S := HeldN n wr γ #[.int .i64 v, .slice (some ⟨sb, so, none⟩) ss.length sc, cv, .slice ba bs.length bc, .string A.sv, .int .i64 A.sn, .int .i64 A.cr, .int .i64 A.wa, .int .i64 A.cl, .bool A.sc, ev, .bool A.dp, .int .i64 pl] sb (so + pl * 13) yj) (by kernel_rfl) (HeldN.drew HW.out.bx HSV.out hγn hs3' hnr) (fun hHeld => ?_)
        refine wpAnyH_take (i := 0) (v := u5) rfl (by kernel_rfl) (by kernel_rfl) (by kernel_rfl) (fun _ _ _ h => h) (Or.inl ⟨by rfl, fun W hW => by (try dsimp only at hW); go_simp⟩) hHeld ?_
        try simp only [Act.put, List.getElem_toArray, List.getElem_cons_zero, List.setIfInBounds_toArray, List.set_cons_zero, List.set_cons_succ]
        refine wpAnyH_take (i := 1) (v := .pointer (some ⟨sb, so + pl * 13, none⟩)) rfl (by kernel_rfl) (by kernel_rfl) (by kernel_rfl) (fun _ _ _ h => h) (Or.inl ⟨by rfl, fun W hW => by (try dsimp only at hW); go_simp⟩) hHeld ?_
        try simp only [Act.put, List.getElem_toArray, List.getElem_cons_succ, List.getElem_cons_zero, List.setIfInBounds_toArray, List.set_cons_zero, List.set_cons_succ]
        refine wpAnyH_take (i := 2) (v := .pointer (some ⟨sb, so + pl * 13, none⟩)) rfl (by kernel_rfl) (by kernel_rfl) (by kernel_rfl) (fun _ _ _ h => h) (Or.inl ⟨by rfl, fun W hW => by (try dsimp only at hW); go_simp⟩) hHeld ?_
        try simp only [Act.put, List.getElem_toArray, List.getElem_cons_succ, List.getElem_cons_zero, List.setIfInBounds_toArray, List.set_cons_zero, List.set_cons_succ]
        refine wpAnyH_take (i := 3) (v := .pointer (some ⟨sb, so + pl * 13, none⟩)) rfl (by kernel_rfl) (by kernel_rfl) (by kernel_rfl) (fun _ _ _ h => h) (Or.inl ⟨by rfl, fun W hW => by (try dsimp only at hW); go_simp⟩) hHeld ?_
        try simp only [Act.put, List.getElem_toArray, List.getElem_cons_succ, List.getElem_cons_zero, List.setIfInBounds_toArray, List.set_cons_zero, List.set_cons_succ]
        refine wpAnyH_take (i := 4) (v := .string yj.nm) rfl (by kernel_rfl) (by kernel_rfl) (by kernel_rfl) (fun _ _ _ h => h) (Or.inl ⟨by rfl, fun W hW => by (try dsimp only at hW); go_simp⟩) hHeld ?_
        try simp only [Act.put, List.getElem_toArray, List.getElem_cons_succ, List.getElem_cons_zero, List.setIfInBounds_toArray, List.set_cons_zero, List.set_cons_succ]
        refine wpAnyH_take (i := 5) (v := .pointer (some ⟨sb, so + pl * 13, none⟩)) rfl (by kernel_rfl) (by kernel_rfl) (by kernel_rfl) (fun _ _ _ h => h) (Or.inl ⟨by rfl, fun W hW => by (try dsimp only at hW); go_simp⟩) hHeld ?_
        try simp only [Act.put, List.getElem_toArray, List.getElem_cons_succ, List.getElem_cons_zero, List.setIfInBounds_toArray, List.set_cons_zero, List.set_cons_succ]
        refine wpAnyH_take (i := 6) (v := .pointer (some ⟨sb, so + pl * 13, none⟩)) rfl (by kernel_rfl) (by kernel_rfl) (by kernel_rfl) (fun _ _ _ h => h) (Or.inl ⟨by rfl, fun W hW => by (try dsimp only at hW); go_simp⟩) hHeld ?_
        try simp only [Act.put, List.getElem_toArray, List.getElem_cons_succ, List.getElem_cons_zero, List.setIfInBounds_toArray, List.set_cons_zero, List.set_cons_succ]
        refine wpAnyH_take (i := 7) (v := .pointer (some ⟨sb, so + pl * 13 + 7, none⟩)) rfl (by kernel_rfl) (by kernel_rfl) (by kernel_rfl) (fun _ _ _ h => h) (Or.inl ⟨by rfl, fun W hW => by (try dsimp only at hW); go_simp⟩) hHeld ?_
        try simp only [Act.put, List.getElem_toArray, List.getElem_cons_succ, List.getElem_cons_zero, List.setIfInBounds_toArray, List.set_cons_zero, List.set_cons_succ]
        refine wpAnyH_take (i := 8) (v := .int .i64 yj.nx) rfl (by kernel_rfl) (by kernel_rfl) (by kernel_rfl) (fun _ _ _ h => h) (Or.inl ⟨by rfl, fun W hW => by (try dsimp only at hW); go_simp⟩) hHeld ?_
        try simp only [Act.put, List.getElem_toArray, List.getElem_cons_succ, List.getElem_cons_zero, List.setIfInBounds_toArray, List.set_cons_zero, List.set_cons_succ]
        refine wpAnyH_take (i := 9) (v := .pointer (some ⟨γ, 0, none⟩)) rfl (by kernel_rfl) (by kernel_rfl) (by kernel_rfl) (fun _ _ _ h => h) (Or.inl ⟨by rfl, fun W hW => by (try dsimp only at hW); go_simp⟩) hHeld ?_
        try simp only [Act.put, List.getElem_toArray, List.getElem_cons_succ, List.getElem_cons_zero, List.setIfInBounds_toArray, List.set_cons_zero, List.set_cons_succ]
        refine wpAnyH_take (i := 10) (v := .pointer (some ⟨γ, 0, none⟩)) rfl (by kernel_rfl) (by kernel_rfl) (by kernel_rfl) (fun _ _ _ h => h) (Or.inl ⟨by rfl, fun W hW => by (try dsimp only at hW); go_simp⟩) hHeld ?_
        try simp only [Act.put, List.getElem_toArray, List.getElem_cons_succ, List.getElem_cons_zero, List.setIfInBounds_toArray, List.set_cons_zero, List.set_cons_succ]
        refine wpAnyH_take (i := 11) (v := .pointer (some ⟨γ, 0, none⟩)) rfl (by kernel_rfl) (by kernel_rfl) (by kernel_rfl) (fun _ _ _ h => h) (Or.inl ⟨by rfl, fun W hW => by (try dsimp only at hW); go_simp⟩) hHeld ?_
        try simp only [Act.put, List.getElem_toArray, List.getElem_cons_succ, List.getElem_cons_zero, List.setIfInBounds_toArray, List.set_cons_zero, List.set_cons_succ]
        refine wpAnyH_take (i := 12) (v := .pointer (some ⟨γ, 0, none⟩)) rfl (by kernel_rfl) (by kernel_rfl) (by kernel_rfl) (fun _ _ _ h => h) (Or.inl ⟨by rfl, fun W hW => by (try dsimp only at hW); go_simp⟩) hHeld ?_
        try simp only [Act.put, List.getElem_toArray, List.getElem_cons_succ, List.getElem_cons_zero, List.setIfInBounds_toArray, List.set_cons_zero, List.set_cons_succ]
        refine wpAnyH_take (i := 13) (v := .int .i64 v) rfl (by kernel_rfl) (by kernel_rfl) (by kernel_rfl) (fun _ _ _ h => h) (Or.inl ⟨by rfl, fun W hW => by (try dsimp only at hW); go_simp⟩) hHeld ?_
        try simp only [Act.put, List.getElem_toArray, List.getElem_cons_succ, List.getElem_cons_zero, List.setIfInBounds_toArray, List.set_cons_zero, List.set_cons_succ]
        refine wpAnyH_take (i := 14) (v := .pointer (some ⟨sb, so + pl * 13, none⟩)) rfl (by kernel_rfl) (by kernel_rfl) (by kernel_rfl) (fun _ _ _ h => h) (Or.inl ⟨by rfl, fun W hW => by (try dsimp only at hW); go_simp⟩) hHeld ?_
        try simp only [Act.put, List.getElem_toArray, List.getElem_cons_succ, List.getElem_cons_zero, List.setIfInBounds_toArray, List.set_cons_zero, List.set_cons_succ]
        refine wpAnyH_take (i := 15) (v := .pointer (some ⟨sb, so + pl * 13, none⟩)) rfl (by kernel_rfl) (by kernel_rfl) (by kernel_rfl) (fun _ _ _ h => h) (Or.inl ⟨by rfl, fun W hW => by (try dsimp only at hW); go_simp⟩) hHeld ?_
        try simp only [Act.put, List.getElem_toArray, List.getElem_cons_succ, List.getElem_cons_zero, List.setIfInBounds_toArray, List.set_cons_zero, List.set_cons_succ]
        refine wpAnyH_take (i := 16) (v := .pointer (some ⟨sb, so + pl * 13 + 3, none⟩)) rfl (by kernel_rfl) (by kernel_rfl) (by kernel_rfl) (fun _ _ _ h => h) (Or.inl ⟨by rfl, fun W hW => by (try dsimp only at hW); go_simp⟩) hHeld ?_
        try simp only [Act.put, List.getElem_toArray, List.getElem_cons_succ, List.getElem_cons_zero, List.setIfInBounds_toArray, List.set_cons_zero, List.set_cons_succ]
        refine wpAnyH_take (i := 17) (v := .int .i64 yj.im) rfl (by kernel_rfl) (by kernel_rfl) (by kernel_rfl) (fun _ _ _ h => h) (Or.inl ⟨by rfl, fun W hW => by (try dsimp only at hW); go_simp⟩) hHeld ?_
        try simp only [Act.put, List.getElem_toArray, List.getElem_cons_succ, List.getElem_cons_zero, List.setIfInBounds_toArray, List.set_cons_zero, List.set_cons_succ]
        refine wpAnyH_take (i := 18) (v := .agg #[.string yj.nm, .int .i64 yj.nx, .int .i64 v, .int .i64 yj.im, .int .i64 1, .bool false, .string ⟨#[]⟩]) rfl (by kernel_rfl) (by kernel_rfl) (by kernel_rfl) (fun _ _ _ h => h) (Or.inl ⟨by rfl, fun W hW => by (try dsimp only at hW); go_simp⟩) hHeld ?_
        try simp only [Act.put, List.getElem_toArray, List.getElem_cons_succ, List.getElem_cons_zero, List.setIfInBounds_toArray, List.set_cons_zero, List.set_cons_succ]
        refine wpAnyH_ready (rs := [19]) (by kernel_rfl) (by simp) ?_
        refine AllReadyH.cons rfl (fun K hK => ?_) AllReadyH.nil
        go_simp
        refine hK.out _ _ (HeldN.al hHeld _) (fun hHx => ?_)
        clear hHeld
        have hHeld := hHx
        clear hK K hHx
        try simp only [Act.put, List.getElem_toArray, List.getElem_cons_succ, List.getElem_cons_zero, List.setIfInBounds_toArray, List.set_cons_zero, List.set_cons_succ]
        refine wpAnyH_ready (rs := [20]) (by kernel_rfl) (by simp) ?_
        refine AllReadyH.cons rfl (fun K hK => ?_) AllReadyH.nil
        refine step_append_any (by rfl) (.tmp 43) (.tmp 62) 33 (by rfl) n 92 i1 (.agg #[.string ⟨#[]⟩, .int .i64 0, .int .i64 0, .int .i64 0, .int .i64 0, .bool false, .string ⟨#[]⟩]) 7 72 Tryz.underlying33 HI1.out.1 HI1.out.2.1 HI1.out.2.2.1 HI1.out.2.2.2 (by rfl) (by decide) u5 j (flatV cpL (madeL y.nm v y.im j y.nx)) (by rfl) (ownsB_on HOW.out ((one_al _ _).drew)) (some ⟨wr.heap.size, 0, none⟩) 1 1 (cpL (newC yj.nm yj.nx v yj.im)) (by rfl) (by rfl) (fun e => by cases e) (cells_at (Box.drew (Box.new _ _ _ _ rfl)) rfl) (cpL_one1 _) (by unfold maxLen; omega) (by omega) (by simp; omega) ?_
        intro mv2 w5 hown5 hgrow5
        have hb5 : Below n _ w5 := ownsB_grown (ownsB_on HOW.out ((one_al _ _).drew)) hgrow5 (by simp; omega)
        refine hK.out _ _ (hHeld.on hb5) (fun hHx => ?_)
        clear hHeld
        have hHeld := hHx
        clear hK K hHx
        try simp only [Act.put, List.getElem_toArray, List.getElem_cons_succ, List.getElem_cons_zero, List.setIfInBounds_toArray, List.set_cons_zero, List.set_cons_succ]
        refine wpAnyH_take (i := 21) (v := mv2) rfl (by kernel_rfl) (by kernel_rfl) (by kernel_rfl) (fun _ _ _ h => h) (Or.inl ⟨by rfl, fun W hW => by (try dsimp only at hW); go_simp⟩) hHeld ?_
        try simp only [Act.put, List.getElem_toArray, List.getElem_cons_succ, List.getElem_cons_zero, List.setIfInBounds_toArray, List.set_cons_zero, List.set_cons_succ]
        refine wpAnyH_done (by kernel_rfl) ?_ _
        have hbw : Below n wr w5 := ((one_al wr _).drew.mono hnr).trans hb5
        have HW5 := hide (HW.out.up hc1 hbw hγn)
        have HT5 := hide (HT.out.thenB hbw hwn)
        have hnr5 : n ≤ w5.heap.size := Nat.le_trans hnr hbw.size
        have HO5 : Hid (w5.ownsRow n 92 7 mv2 (j + 1) (flatV cpL (madeL y.nm v y.im (j + 1) y.nx))) := by
          unfold Hid
          rw [made_snoc, flatV_app, ← HYJ.out.1, ← HYJ.out.2.2.1, ← HYJ.out.2.1]
          have e : flatV cpL [newC yj.nm yj.nx v yj.im] = cpL (newC yj.nm yj.nx v yj.im) := by simp [flatV]
          rw [e, HYJ.out.1, HYJ.out.2.2.1]
          rw [HYJ.out.1, HYJ.out.2.2.1] at hown5
          exact hown5
        have hs5 := HSV.out.below hbw hs3'
        have d7 := hs5.c7
        have hfz : ∀ i, w5.frozen? ⟨sb, i, none⟩ = false := fun i => (hbw.frozen (p := ⟨sb, i, none⟩) hs3').trans (HFZ.out i)
        have hwr : IntKind.i64.wrap (yj.nx + 1) = yj.nx + 1 := by rw [HYJ.out.2.1, IntWalk.i64_left]; unfold wrap64; omega
        clear hs5 hHeld hown5 hgrow5 hb5 hbw HW HT HOW HSV HFZ
        obtain ⟨hk6, ht6⟩ := HW5.out.turnN hpl2 { yj with nx := yj.nx + 1 } (W' := w5.setCell ⟨sb, so + pl * 13 + 7, none⟩ (.int .i64 (yj.nx + 1))) (fun _ _ st => by rw [hge] at st; exact st.s7 (yj.nx + 1)) (by rw [hge])
        rw [List.set_set, HYJ.out.2.2.2] at hk6
        have HK6 := hide hk6
        have HT6 := hide (HT5.out.trans ht6)
        have HO6 := hide (owns_other HO5.out (p := ⟨sb, so + pl * 13 + 7, none⟩) hs3' (.int .i64 (yj.nx + 1)))
        have hsz := ht6.size
        clear hk6 ht6
        go_wp2
        go_roundw
        case rel => exact ⟨j + 1, by go_num, by omega, HO6.out, by omega, HT6.out, HK6.out⟩
        case measure => simp [intOf]; omega
      · have hjc : (j : Int) = A.cr := by omega
        have hj0 : 0 < j := by omega
        obtain ⟨g, mc, mcur, rfl, hng, hgh, hjm, hmm, hms, hmt⟩ : ∃ g cap cur, u5 = .slice (some ⟨g, 0, none⟩) j cap ∧ n ≤ g ∧ wr.heap[g]? = some (.cells cur 92 (0, 0)) ∧ j ≤ cap ∧ cap ≤ maxLen ∧ cur.size = cap * 7 ∧ cur.toList.take (j * 7) = flatV cpL (madeL y.nm v y.im j y.nx) := by
          rcases HOW.out.2 with ⟨_, h0⟩ | h0
          · omega
          · exact h0
        have HROW := hide (owns_low (cps_owns HW.out.co HW.out.sh) HW.out.az.2.2.2.2.2.1)
        have HGH := hide hgh
        have HMS := hide hms
        have HMT := hide hmt
        have haz := HW.out.az
        have hlt1 := HW.out.bx.lt
        have hcb : cv.ownBlock ≠ some g := fun e => by have := HW.out.sh.blk g e; omega
        have hnm : y.nm.size ≤ maxLen := by
          have h1 := (HW.out.so.at.sizes pl (by rw [List.length_set]; exact hpl)).s0
          simpa using h1
        obtain ⟨R, hR⟩ : ∃ R, R = cs.take q ++ (madeL y.nm v y.im j y.nx ++ cs.drop q) := ⟨_, rfl⟩
        have hRl : R.length = cs.length + j := by
          rw [hR]
          simp only [List.length_append, List.length_take, List.length_drop, made_len]
          omega
        have HRR : Hid (risR aheadB R = true) := by unfold Hid; rw [hR]; exact ins_ris v y.im HQ.out HLT.out HR.out
        obtain ⟨hsp1, hsp2⟩ := next_spot v y.im HQ.out HLT.out
        have hjn : A.cr.toNat = j := by omega
        have HCF : Hid (crF y.nm v y.im A.cr.toNat y.nx cs = R) := by
          unfold Hid
          rw [hR, hjn]
          have := crF_at y.nm v y.im j y.nx (cs.take q) (cs.drop q) hsp1 (fun d hd m => (hsp2 d hd m).1)
          rwa [List.take_append_drop] at this
        have HLI : Hid ((ctL R y.nm y.im).li = (ctL cs y.nm y.im).li + A.cr) := by unfold Hid; rw [hR, ins_live, hjc]
        have HEN : Hid ((ctL R y.nm y.im).en = (ctL cs y.nm y.im).en) := by unfold Hid; rw [hR, ins_ending]
        have HNR : Hid (∀ i (h : i < R.length), 1 ≤ R[i].nu) := fun i h => by
          have hm := List.getElem_mem h
          generalize R[i] = d at hm
          rw [hR, List.mem_append, List.mem_append] at hm
          rcases hm with hm | hm | hm
          · obtain ⟨k, hk, e⟩ := List.getElem_of_mem (List.mem_of_mem_take hm)
            rw [← e]; exact HNU.out k hk
          · have := (made_mem _ _ _ _ _ _ hm).2.1
            omega
          · obtain ⟨k, hk, e⟩ := List.getElem_of_mem (List.mem_of_mem_drop hm)
            rw [← e]; exact HNU.out k hk
        have HZR : Hid (∀ i (hi : i < R.length), CpSize R[i]) := fun i h => by
          have hm := List.getElem_mem h
          generalize R[i] = d at hm
          rw [hR, List.mem_append, List.mem_append] at hm
          rcases hm with hm | hm | hm
          · obtain ⟨k, hk, e⟩ := List.getElem_of_mem (List.mem_of_mem_take hm)
            rw [← e]; exact HW.out.co.at.sizes k hk
          · exact made_size hnm hm
          · obtain ⟨k, hk, e⟩ := List.getElem_of_mem (List.mem_of_mem_drop hm)
            rw [← e]; exact HW.out.co.at.sizes k hk
        have HRE := hide hR
        have z2 : wr.cell? ⟨γ, 2, none⟩ = some cv := by rw [HW.out.bx.cell 2]; rfl
        clear hgh hms hmt hsp1 hsp2 hR
        go_wp2_with fail
        refine (insertCps_any lo q g cv cs (madeL y.nm v y.im j y.nx) j mc mcur _ HROW.out hql (by omega) (by omega) hcb HGH.out (made_len _ _ _ _ _) hj0 (by omega) hjm HMS.out HMT.out).mono ?_
        rintro e w6 ⟨cw, rfl, hown6, -, hg6, hob6⟩
        rw [← HRE.out, ← hRl] at hown6
        obtain ⟨xa, xn, xc, rfl⟩ := owns_slice hown6
        obtain ⟨⟨c0', c1', hcc, hk6⟩, ht6⟩ := HW.out.ins hc1 hown6 hg6 hob6 HZR.out (by unfold maxLen; omega)
        have z2b := hk6.bx.cell 2
        have z2f := hk6.bx.free
        simp at z2b
        go_wp2_with fail
        obtain ⟨hk7, ht7⟩ := hk6.setB (k := 2) (.slice xa xn xc) (by simp)
        have HTS := hide HT.out.size
        have HT7 := hide (HT.out.trans (ht6.trans ht7))
        have HW7 := hide hk7
        clear hk6 hk7 ht6 ht7 z2b z2f hown6 hg6 hob6 z2 HW HOW HROW HGH HMS HMT HZR
        generalize w6.setCell _ _ = W7 at *
        obtain ⟨yn, hyn⟩ : ∃ z : Sv, z = { y with nx := y.nx + (j : Int) } := ⟨_, rfl⟩
        rw [← hyn] at HW7
        have HYN : Hid (yn.nm = y.nm ∧ yn.im = y.im ∧ yn.wa = y.wa ∧ yn.ov = y.ov ∧ yn = { y with nx := y.nx + A.cr }) := by
          unfold Hid; rw [← hjc]; subst hyn; exact ⟨rfl, rfl, rfl, rfl, rfl⟩
        clear hyn
        have hpl2 : pl < (ss.set pl yn).length := by rw [List.length_set]; exact hpl
        have hge : (ss.set pl yn)[pl] = yn := by simp
        obtain ⟨-, -, hs7, -, hs5⟩ := HW7.out.so.oneAt hpl2
        rw [hge] at hs5
        have HSV := hide hs5
        have hwr : IntKind.i64.wrap (yn.wa + yn.ov) = yn.wa + yn.ov := by rw [HYN.out.2.2.1, HYN.out.2.2.2.1, IntWalk.i64_left]; unfold wrap64; omega
        have HFIN : Hid (Cre w0 w W7 lo γ s0 s1 c0 c1 e0 e1 sb so sc pl cv (.slice ba bs.length bc) ev A y v ss cs bs) := by
          unfold Hid Cre
          rw [HCF.out, ← HYN.out.2.2.2.2]
          exact ⟨_, c0', c1', by have := HTS.out; omega, HW7.out, HRR.out, HNR.out, HLI.out, HEN.out⟩
        clear hs5 hge
        have hfl := fieldLi
        refine wp_region_held_drew (S := HeldW W7 γ #[.int .i64 v, .slice (some ⟨sb, so, none⟩) ss.length sc, .slice xa xn xc, .slice ba bs.length bc, .string A.sv, .int .i64 A.sn, .int .i64 A.cr, .int .i64 A.wa, .int .i64 A.cl, .bool A.sc, ev, .bool A.dp, .int .i64 pl] sb (so + pl * 13) yn) (by kernel_rfl) (HeldW.drew HW7.out.bx HSV.out hs7) (fun hHeld => ?_)
        refine wpAnyH_take (i := 0) (v := .pointer (some ⟨γ, 0, none⟩)) rfl (by kernel_rfl) (by kernel_rfl) (by kernel_rfl) (fun _ _ _ h => h) (Or.inl ⟨by rfl, fun W hW => by (try dsimp only at hW); go_simp⟩) hHeld ?_
        try simp only [Act.put, List.getElem_toArray, List.getElem_cons_zero, List.setIfInBounds_toArray, List.set_cons_zero, List.set_cons_succ]
        refine wpAnyH_take (i := 1) (v := .pointer (some ⟨γ, 0, none⟩)) rfl (by kernel_rfl) (by kernel_rfl) (by kernel_rfl) (fun _ _ _ h => h) (Or.inl ⟨by rfl, fun W hW => by (try dsimp only at hW); go_simp⟩) hHeld ?_
        try simp only [Act.put, List.getElem_toArray, List.getElem_cons_succ, List.getElem_cons_zero, List.setIfInBounds_toArray, List.set_cons_zero, List.set_cons_succ]
        refine wpAnyH_take (i := 2) (v := .pointer (some ⟨γ, 0, none⟩)) rfl (by kernel_rfl) (by kernel_rfl) (by kernel_rfl) (fun _ _ _ h => h) (Or.inl ⟨by rfl, fun W hW => by (try dsimp only at hW); go_simp⟩) hHeld ?_
        try simp only [Act.put, List.getElem_toArray, List.getElem_cons_succ, List.getElem_cons_zero, List.setIfInBounds_toArray, List.set_cons_zero, List.set_cons_succ]
        refine wpAnyH_take (i := 3) (v := .agg #[.int .i64 v, .slice (some ⟨sb, so, none⟩) ss.length sc, .slice xa xn xc, .slice ba bs.length bc]) rfl (by kernel_rfl) (by kernel_rfl) (by kernel_rfl) (fun _ _ _ h => h) (Or.inl ⟨by rfl, fun W hW => by (try dsimp only at hW); go_simp⟩) hHeld ?_
        try simp only [Act.put, List.getElem_toArray, List.getElem_cons_succ, List.getElem_cons_zero, List.setIfInBounds_toArray, List.set_cons_zero, List.set_cons_succ]
        refine wpAnyH_take (i := 4) (v := .pointer (some ⟨sb, so + pl * 13, none⟩)) rfl (by kernel_rfl) (by kernel_rfl) (by kernel_rfl) (fun _ _ _ h => h) (Or.inl ⟨by rfl, fun W hW => by (try dsimp only at hW); go_simp⟩) hHeld ?_
        try simp only [Act.put, List.getElem_toArray, List.getElem_cons_succ, List.getElem_cons_zero, List.setIfInBounds_toArray, List.set_cons_zero, List.set_cons_succ]
        refine wpAnyH_take (i := 5) (v := .pointer (some ⟨sb, so + pl * 13, none⟩)) rfl (by kernel_rfl) (by kernel_rfl) (by kernel_rfl) (fun _ _ _ h => h) (Or.inl ⟨by rfl, fun W hW => by (try dsimp only at hW); go_simp⟩) hHeld ?_
        try simp only [Act.put, List.getElem_toArray, List.getElem_cons_succ, List.getElem_cons_zero, List.setIfInBounds_toArray, List.set_cons_zero, List.set_cons_succ]
        refine wpAnyH_take (i := 6) (v := .agg #[.string yn.nm, .int .i64 yn.ve, .bool yn.gn, .int .i64 yn.im, .int .i64 yn.wa, .int .i64 yn.dn, .int .i64 yn.ov, .int .i64 yn.nx, .int .i64 yn.pr, .int .i64 yn.ls, .int .i64 yn.ms, .int .i64 yn.ld, .int .i64 yn.cl]) rfl (by kernel_rfl) (by kernel_rfl) (by kernel_rfl) (fun _ _ _ h => h) (Or.inl ⟨by rfl, fun W hW => by (try dsimp only at hW); go_simp⟩) hHeld ?_
        try simp only [Act.put, List.getElem_toArray, List.getElem_cons_succ, List.getElem_cons_zero, List.setIfInBounds_toArray, List.set_cons_zero, List.set_cons_succ]
        refine wpAnyH_take (i := 9) (v := .pointer (some ⟨sb, so + pl * 13, none⟩)) rfl (by kernel_rfl) (by kernel_rfl) (by kernel_rfl) (fun _ _ _ h => h) (Or.inl ⟨by rfl, fun W hW => by (try dsimp only at hW); go_simp⟩) hHeld ?_
        try simp only [Act.put, List.getElem_toArray, List.getElem_cons_succ, List.getElem_cons_zero, List.setIfInBounds_toArray, List.set_cons_zero, List.set_cons_succ]
        refine wpAnyH_take (i := 10) (v := .pointer (some ⟨sb, so + pl * 13, none⟩)) rfl (by kernel_rfl) (by kernel_rfl) (by kernel_rfl) (fun _ _ _ h => h) (Or.inl ⟨by rfl, fun W hW => by (try dsimp only at hW); go_simp⟩) hHeld ?_
        try simp only [Act.put, List.getElem_toArray, List.getElem_cons_succ, List.getElem_cons_zero, List.setIfInBounds_toArray, List.set_cons_zero, List.set_cons_succ]
        refine wpAnyH_take (i := 11) (v := .pointer (some ⟨sb, so + pl * 13 + 4, none⟩)) rfl (by kernel_rfl) (by kernel_rfl) (by kernel_rfl) (fun _ _ _ h => h) (Or.inl ⟨by rfl, fun W hW => by (try dsimp only at hW); go_simp⟩) hHeld ?_
        try simp only [Act.put, List.getElem_toArray, List.getElem_cons_succ, List.getElem_cons_zero, List.setIfInBounds_toArray, List.set_cons_zero, List.set_cons_succ]
        refine wpAnyH_take (i := 12) (v := .int .i64 yn.wa) rfl (by kernel_rfl) (by kernel_rfl) (by kernel_rfl) (fun _ _ _ h => h) (Or.inl ⟨by rfl, fun W hW => by (try dsimp only at hW); go_simp⟩) hHeld ?_
        try simp only [Act.put, List.getElem_toArray, List.getElem_cons_succ, List.getElem_cons_zero, List.setIfInBounds_toArray, List.set_cons_zero, List.set_cons_succ]
        refine wpAnyH_take (i := 13) (v := .pointer (some ⟨sb, so + pl * 13, none⟩)) rfl (by kernel_rfl) (by kernel_rfl) (by kernel_rfl) (fun _ _ _ h => h) (Or.inl ⟨by rfl, fun W hW => by (try dsimp only at hW); go_simp⟩) hHeld ?_
        try simp only [Act.put, List.getElem_toArray, List.getElem_cons_succ, List.getElem_cons_zero, List.setIfInBounds_toArray, List.set_cons_zero, List.set_cons_succ]
        refine wpAnyH_take (i := 14) (v := .pointer (some ⟨sb, so + pl * 13, none⟩)) rfl (by kernel_rfl) (by kernel_rfl) (by kernel_rfl) (fun _ _ _ h => h) (Or.inl ⟨by rfl, fun W hW => by (try dsimp only at hW); go_simp⟩) hHeld ?_
        try simp only [Act.put, List.getElem_toArray, List.getElem_cons_succ, List.getElem_cons_zero, List.setIfInBounds_toArray, List.set_cons_zero, List.set_cons_succ]
        refine wpAnyH_take (i := 15) (v := .pointer (some ⟨sb, so + pl * 13 + 6, none⟩)) rfl (by kernel_rfl) (by kernel_rfl) (by kernel_rfl) (fun _ _ _ h => h) (Or.inl ⟨by rfl, fun W hW => by (try dsimp only at hW); go_simp⟩) hHeld ?_
        try simp only [Act.put, List.getElem_toArray, List.getElem_cons_succ, List.getElem_cons_zero, List.setIfInBounds_toArray, List.set_cons_zero, List.set_cons_succ]
        refine wpAnyH_take (i := 16) (v := .int .i64 yn.ov) rfl (by kernel_rfl) (by kernel_rfl) (by kernel_rfl) (fun _ _ _ h => h) (Or.inl ⟨by rfl, fun W hW => by (try dsimp only at hW); go_simp⟩) hHeld ?_
        try simp only [Act.put, List.getElem_toArray, List.getElem_cons_succ, List.getElem_cons_zero, List.setIfInBounds_toArray, List.set_cons_zero, List.set_cons_succ]
        refine wpAnyH_take (i := 17) (v := .int .i64 (yn.wa + yn.ov)) rfl (by kernel_rfl) (by kernel_rfl) (by kernel_rfl) (fun _ _ _ h => h) (Or.inl ⟨by rfl, fun W hW => by (try dsimp only at hW); go_simp⟩) hHeld ?_
        try simp only [Act.put, List.getElem_toArray, List.getElem_cons_succ, List.getElem_cons_zero, List.setIfInBounds_toArray, List.set_cons_zero, List.set_cons_succ]
        refine wpAnyH_ready (rs := [7]) (by kernel_rfl) (by simp) ?_
        refine AllReadyH.cons rfl (fun K hK => ?_) AllReadyH.nil
        go_simp
        go_wp2_with (go_at_call 134; refine (countIn_any c0' v _ _ _ R yn _ (HW7.out.co.at.below hHeld.base) (by omega) HRR.out HNR.out ⟨_, _, _, rfl⟩ ⟨_, _, _, rfl⟩).mono ?_; rintro e w8 ⟨n2, rfl, hn2, hb8⟩)
        refine hK.out _ _ (hHeld.on hb8) (fun hHeld => ?_)
        clear hK K
        refine wpAnyH_take (i := 8) (v := .int .i64 n2.li) rfl (by kernel_rfl) (by kernel_rfl) (by kernel_rfl) (fun _ _ _ h => h) (Or.inl ⟨by rfl, fun W hW => by (try dsimp only at hW); go_simp⟩) hHeld ?_
        try simp only [Act.put, List.getElem_toArray, List.getElem_cons_succ, List.getElem_cons_zero, List.setIfInBounds_toArray, List.set_cons_zero, List.set_cons_succ]
        refine wpAnyH_take (i := 18) (v := .bool (decide (n2.li ≤ yn.wa + yn.ov))) rfl (by kernel_rfl) (by kernel_rfl) (by kernel_rfl) (fun _ _ _ h => h) (Or.inl ⟨by rfl, fun W hW => by (try dsimp only at hW); go_simp⟩) hHeld ?_
        try simp only [Act.put, List.getElem_toArray, List.getElem_cons_succ, List.getElem_cons_zero, List.setIfInBounds_toArray, List.set_cons_zero, List.set_cons_succ]
        have HN2 := hide hn2.out
        have HLV : Hid (n2.li = (ctL cs y.nm y.im).li + A.cr) := by unfold Hid; rw [HN2.out, HYN.out.1, HYN.out.2.1]; exact HLI.out
        cases hdc : decide (n2.li ≤ yn.wa + yn.ov) with
        | false =>
          have H6 : Hid (six2 A y (ctL cs y.nm y.im).li = true) := by
            unfold Hid
            rw [H60.out]
            have := of_decide_eq_false hdc
            rw [HLV.out, HYN.out.2.2.1, HYN.out.2.2.2.1] at this
            exact decide_eq_true (by omega)
          refine wpAnyH_ready (rs := [19]) (by kernel_rfl) (by simp) ?_
          refine AllReadyH.cons rfl (fun K hK => ?_) AllReadyH.nil
          go_simp
          refine (goOn_no 6 _).mono ?_
          rintro e w3 ⟨rfl, rfl⟩
          exact ⟨rfl, HT7.out.trans (Touch.below hHeld.base), Or.inl ⟨H6.out, rfl⟩⟩
        | true =>
          have H6 : Hid (six2 A y (ctL cs y.nm y.im).li = false) := by
            unfold Hid
            rw [H60.out]
            have := of_decide_eq_true hdc
            rw [HLV.out, HYN.out.2.2.1, HYN.out.2.2.2.1] at this
            exact decide_eq_false (by omega)
          refine wpAnyH_ready (rs := [19]) (by kernel_rfl) (by simp) ?_
          refine AllReadyH.cons rfl (fun K hK => ?_) AllReadyH.nil
          go_simp
          go_wp2_with (go_at_call 131; refine (goOn_yesB 6 _).mono ?_; rintro e w3 ⟨rfl, hb3⟩)
          replace hHeld := hHeld.on hb3
          clear hb3
          have HB9 := hide hHeld.base
          refine hK.out _ _ hHeld (fun hHeld2 => ?_)
          refine wpAnyH_done (by kernel_rfl) ?_ _
          clear hK K hHeld2 hHeld
          go_wp2
          go_end0
          exact ⟨HT7.out.trans (Touch.below HB9.out), Or.inr ⟨H6.out, rfl, HFIN.out.on HB9.out⟩⟩
end
end Go.Proofs.YtaogpeebencnoaaGreatDoor
