import Derived.Test.YtpdlcccnlciecaaGreatV47
namespace Go.Proofs.YtpdlcccnlciecaaGreat
open Go.RowKit Go.Deep

section
variable (lo m : Nat) (sv cv bv : Value) (B : Sb) (x : Sv) (n : Ct) (d : Int) (lk : List Value) (w : World)
set_option maxRecDepth 100000 in
set_option maxHeartbeats 8000000 in
theorem keepNumber_c (hlk : LkIs lk m sv cv bv B x n d) (h : SbAt lo w sv cv bv B) (hx : IxAt w m B) (hv : validB B = true) (hsx : svF B.ss x.nm = some x) (hn : n.li = (((liveL B x.nm).length : Nat) : Int)) (hol : n.ol = (((oldL B x).length : Nat) : Int)) (hd : d = (((drL B x).length : Nat) : Int)) (hen : n.en = (ctL B.cs x.nm x.im).en) (hw : (0 ≤ x.wa ∧ x.wa ≤ 10) ∧ (0 ≤ x.dn ∧ x.dn ≤ 10)) (ho : 0 ≤ x.ov ∧ x.ov ≤ 10) :
    Calls Tryz.prog 75 #[.agg lk.toArray] w fun e w' => CareIs w (numI B x) e w' := by
  have HLK := hide hlk
  have HK := hide h
  have HX := hide hx
  have HV := hide hv
  have HSX := hide hsx
  have HW := hide hw
  have HN := hide hn
  have HOL := hide hol
  have HD := hide hd
  have HEN := hide hen
  clear hlk h hv hx hsx hn hol hd hen
  go_enter Tryz.func75, Tryz.ntmps75
  go_wp2_with fail
  generalize hWa : World.alloc (w.alloc _) _ = Wa
  have FX : Hid (Box Wa w.heap.size lk.toArray) := by unfold Hid; rw [← hWa]; exact (Box.new _ _ _ _ rfl).on (one_al _ _)
  have FR : Hid (Box Wa (w.heap.size + 1) zAct.toArray) := by unfold Hid; rw [← hWa]; exact Box.new _ _ _ _ (by simp)
  have HB : Hid (Below w.heap.size w Wa) := by unfold Hid; rw [← hWa]; exact (one_al w _).alloc (by simp) _
  clear hWa
  have HSS : Hid (∀ W, Below Wa.heap.size Wa W → W.rangeAt w.heap.size 5 [.string x.nm, .int .i64 x.ve, .bool x.gn, .int .i64 x.im, .int .i64 x.wa, .int .i64 x.dn, .int .i64 x.ov, .int .i64 x.nx, .int .i64 x.pr, .int .i64 x.ls, .int .i64 x.ms, .int .i64 x.ld, .int .i64 x.cl]) := fun W hW j v hv => by
    have := (FX.out.on hW).rng (5 + j) v
    rw [Nat.zero_add] at this
    refine this ?_
    rw [HLK.out]
    match j, hv with
    | 0, hv => exact hv
    | 1, hv => exact hv
    | 2, hv => exact hv
    | 3, hv => exact hv
    | 4, hv => exact hv
    | 5, hv => exact hv
    | 6, hv => exact hv
    | 7, hv => exact hv
    | 8, hv => exact hv
    | 9, hv => exact hv
    | 10, hv => exact hv
    | 11, hv => exact hv
    | 12, hv => exact hv
  have HSL : Hid (∀ W, Below Wa.heap.size Wa W → W.cell? ⟨w.heap.size, 18, none⟩ = some (.int .i64 n.li)) := fun W hW => by rw [(FX.out.on hW).cell 18, HLK.out]; rfl
  go_cut [4, 5] (fun p v wc => ∃ β : Nat, p = .pointer (some ⟨β, 0, none⟩) ∧ v = .int .i64 n.li ∧ Below Wa.heap.size Wa wc ∧ Box wc β #[.string x.nm, .int .i64 x.ve, .bool x.gn, .int .i64 x.im, .int .i64 x.wa, .int .i64 x.dn, .int .i64 x.ov, .int .i64 x.nx, .int .i64 x.pr, .int .i64 x.ls, .int .i64 x.ms, .int .i64 x.ld, .int .i64 x.cl] ∧ Wa.heap.size ≤ β)
  case first =>
    refine Code.wp_mono NoPanic.imp ?_
    refine wp_region_held_drew (S := fun W => Below Wa.heap.size Wa W) (by kernel_rfl) ((Below.refl _ _).drew) (fun hHeld => ?_)
    refine wpAnyH_take (i := 0) (v := .pointer (some ⟨w.heap.size, 5, none⟩)) rfl (by kernel_rfl) (by kernel_rfl) (by kernel_rfl) (fun _ _ _ h => h) (Or.inl ⟨by rfl, fun W hW => by go_simp⟩) hHeld ?_
    try simp only [Act.put, List.getElem_toArray, List.getElem_cons_zero, List.setIfInBounds_toArray, List.set_cons_zero, List.set_cons_succ]
    refine wpAnyH_take (i := 1) rfl (by kernel_rfl) (by kernel_rfl) (by kernel_rfl) (fun _ _ _ h => h) (yieldsIf_load_mid (by rfl) 50 (.tmp 9) rfl w.heap.size 5 rfl [.string x.nm, .int .i64 x.ve, .bool x.gn, .int .i64 x.im, .int .i64 x.wa, .int .i64 x.dn, .int .i64 x.ov, .int .i64 x.nx, .int .i64 x.pr, .int .i64 x.ls, .int .i64 x.ms, .int .i64 x.ld, .int .i64 x.cl] _ HSS.out Tryz.underlying50 rfl (by kernel_rfl)) hHeld ?_
    try simp only [Act.put, List.getElem_toArray, List.getElem_cons_succ, List.getElem_cons_zero, List.setIfInBounds_toArray, List.set_cons_zero, List.set_cons_succ]
    refine wpAnyH_take (i := 2) (v := .pointer (some ⟨w.heap.size, 18, none⟩)) rfl (by kernel_rfl) (by kernel_rfl) (by kernel_rfl) (fun _ _ _ h => h) (Or.inl ⟨by rfl, fun W hW => by go_simp⟩) hHeld ?_
    try simp only [Act.put, List.getElem_toArray, List.getElem_cons_succ, List.getElem_cons_zero, List.setIfInBounds_toArray, List.set_cons_zero, List.set_cons_succ]
    refine wpAnyH_take (i := 3) (v := .pointer (some ⟨w.heap.size, 18, none⟩)) rfl (by kernel_rfl) (by kernel_rfl) (by kernel_rfl) (fun _ _ _ h => h) (Or.inl ⟨by rfl, fun W hW => by go_simp⟩) hHeld ?_
    try simp only [Act.put, List.getElem_toArray, List.getElem_cons_succ, List.getElem_cons_zero, List.setIfInBounds_toArray, List.set_cons_zero, List.set_cons_succ]
    refine wpAnyH_take (i := 4) (v := .int .i64 n.li) rfl (by kernel_rfl) (by kernel_rfl) (by kernel_rfl) (fun _ _ _ h => h) (Or.inl ⟨by rfl, fun W hW => by have hf := HSL.out W hW; go_simp⟩) hHeld ?_
    try simp only [Act.put, List.getElem_toArray, List.getElem_cons_succ, List.getElem_cons_zero, List.setIfInBounds_toArray, List.set_cons_zero, List.set_cons_succ]
    refine wpAnyH_ready (rs := [5]) (by kernel_rfl) (by simp) ?_
    refine AllReadyH.cons rfl (fun K hK => ?_) AllReadyH.nil
    go_simp
    refine hK.out _ _ ((one_al _ _).drew) (fun hHeld => ?_)
    clear hK K
    try simp only [Act.put, List.getElem_toArray, List.getElem_cons_succ, List.getElem_cons_zero, List.setIfInBounds_toArray, List.set_cons_zero, List.set_cons_succ]
    generalize hW2 : World.alloc _ _ = W2 at *
    have H2 : Hid (Below Wa.heap.size Wa W2) := by unfold Hid; rw [← hW2]; exact one_al _ _
    have H2B : Hid (Box W2 Wa.heap.size #[.string ⟨#[]⟩, .int .i64 0, .bool false, .int .i64 0, .int .i64 0, .int .i64 0, .int .i64 0, .int .i64 0, .int .i64 0, .int .i64 0, .int .i64 0, .int .i64 0, .int .i64 0]) := by unfold Hid; rw [← hW2]; exact Box.new _ _ _ _ rfl
    have HT : Hid (W2.drew.there Wa.heap.size 0 13) := H2B.out.drew.there rfl
    clear hW2
    refine wpAnyH_ready (rs := [6]) (by kernel_rfl) (by simp) ?_
    refine AllReadyH.cons rfl (fun K hK => ?_) AllReadyH.nil
    rw [if_pos (by rfl)]
    refine wp_store_mid 50 (.tmp 4) (.tmp 10) rfl Wa.heap.size 0 #[.string x.nm, .int .i64 x.ve, .bool x.gn, .int .i64 x.im, .int .i64 x.wa, .int .i64 x.dn, .int .i64 x.ov, .int .i64 x.nx, .int .i64 x.pr, .int .i64 x.ls, .int .i64 x.ms, .int .i64 x.ld, .int .i64 x.cl] rfl rfl HT.out (by kernel_rfl) (by simp [Value.oneCell']) ?_
    refine hK.out _ _ (Below.sets (Nat.le_refl _) _ _ H2.out.drew) (fun hHeld => ?_)
    clear hK K
    try simp only [Act.put, List.getElem_toArray, List.getElem_cons_succ, List.getElem_cons_zero]
    refine wpAnyH_take (i := 7) (v := .int .i64 n.li) rfl (by kernel_rfl) (by kernel_rfl) (by kernel_rfl) (fun _ _ _ h => h) (Or.inl ⟨by rfl, fun W hW => by go_simp⟩) hHeld ?_
    try simp only [Act.put, List.getElem_toArray, List.getElem_cons_succ, List.getElem_cons_zero, List.setIfInBounds_toArray, List.set_cons_zero, List.set_cons_succ]
    refine wpAnyH_done (by kernel_rfl) ?_ _
    try simp only [List.getElem_toArray, List.getElem_cons_succ, List.getElem_cons_zero]
    refine NoPanic.normal ?_
    go_wp2
    go_meet
    exact ⟨Wa.heap.size, rfl, rfl, Below.sets (Nat.le_refl _) _ _ H2.out.drew, H2B.out.drew.full (cs' := #[.string x.nm, .int .i64 x.ve, .bool x.gn, .int .i64 x.im, .int .i64 x.wa, .int .i64 x.dn, .int .i64 x.ov, .int .i64 x.nx, .int .i64 x.pr, .int .i64 x.ls, .int .i64 x.ms, .int .i64 x.ld, .int .i64 x.cl]) rfl, Nat.le_refl _⟩
  case rest =>
  obtain ⟨β, rfl, rfl, hbc, hsb, hbl⟩ := hcut
  have FS := hide hsb
  have FXc := hide (FX.out.on hbc)
  have FRc := hide (FR.out.on hbc)
  have HBc := hide (bt HB.out hbc)
  have hzc := hbc.size
  clear hsb
  obtain ⟨N, hN⟩ : ∃ N : Nat, N = (liveL B x.nm).length := ⟨_, rfl⟩
  have HNN : Hid (n.li = (N : Int)) := by unfold Hid; rw [hN]; exact HN.out
  have HNL := hide hN
  have HRP : Hid (numI B x = if x.gn then none else if (N : Int) < x.wa then some (createA x (x.wa - N)) else if (N : Int) = x.wa ∨ ((0 < (oldL B x).length ∨ 0 < (drL B x).length) ∧ (N : Int) ≤ x.wa + x.ov) then none else match fstC B x.im (liveL B x.nm) with
      | some c => if mayT B x.nm c.nu then some (endA x [c]) else none
      | none => none) := by unfold Hid; rw [hN]; rfl
  have c2 := FS.out.cell 2
  have c4 := FS.out.cell 4
  have c6 := FS.out.cell 6
  simp at c2 c4 c6
  have hov : IntKind.i64.wrap (x.wa + x.ov) = x.wa + x.ov := by rw [IntWalk.i64_left]; unfold wrap64; omega
  have hli := HNN.out
  have hsb : IntKind.i64.wrap (x.wa - n.li) = x.wa - n.li := by
    have h200 := live_200 HV.out x.nm (fun _ => true)
    rw [live_any, ← hN] at h200
    rw [IntWalk.i64_left]; unfold wrap64; omega
  clear hN
  cases hg : x.gn with
  | true =>
    have HE : Hid (numI B x = none) := by unfold Hid; rw [HRP.out, hg]; rfl
    rw [hg] at c2
    clear hli
    go_wp2_with fail
    clear c2 c4 c6
    refine (rest_c _).mono ?_
    rintro e wz ⟨A, a, k, hA, rfl, hrow, hb⟩
    have HA := hide hA
    have HROW := hide hrow
    have FRz := hide (FRc.out.on hb)
    have HBz := hide (bt HBc.out hb)
    have hBR := FRc.out.lt
    obtain ⟨ll, hll⟩ : ∃ ll, ll = acL A (.slice a A.es.length k) := ⟨_, rfl⟩
    rw [← hll]
    have h8 : ll.toArray.size = 8 := by rw [hll]; rfl
    have HS8 : Hid ((Tryz.prog.info? 47).map (·.size) = some ll.length) := by unfold Hid; rw [hll]; exact Tryz.sizeAct
    have HSA : Hid ((Tryz.prog.info? 47).map (·.size) = some ll.toArray.size) := by unfold Hid; rw [hll]; exact Tryz.sizeAct
    have HTH : Hid (wz.there (w.heap.size + 1) 0 ll.toArray.size) := by unfold Hid; rw [h8]; exact FRz.out.there rfl
    have HON : Hid (ll.toArray.all (·.oneCell') = true) := by unfold Hid; rw [hll]; exact acL_one _
    have HLL := hide hll
    clear hll hA hrow hb
    go_wp2_with (refine wpList_store_mid rfl 47 (.tmp 2) (.tmp 17) rfl (w.heap.size + 1) 0 ll.toArray rfl rfl HTH.out HSA.out HON.out ?_; refine Hid.out ?_)
    generalize hW : World.setCells _ _ _ _ = W9
    have FR9 : Hid (Box W9 (w.heap.size + 1) ll.toArray) := by unfold Hid; rw [← hW]; exact FRz.out.full (cs' := ll.toArray) (by rw [h8]; rfl)
    have HB9 : Hid (Below w.heap.size w W9) := by unfold Hid; rw [← hW]; exact Below.sets (by omega) _ _ HBz.out
    have HER : Hid (ERow W9 w.heap.size (.slice a A.es.length k) A.es) := by unfold Hid; rw [← hW]; exact erow_sets HROW.out (by omega) (by omega)
    clear hW
    refine hide ?_
    go_wp2
    refine bodyPost_ret (v := .tuple #[.agg ll.toArray, .bool false]) (res_care (p := 2) (q := 3) (ty := 47) Tryz.results75 _ _ (w.heap.size + 1) ll false _ rfl rfl (FR9.out.range rfl) Tryz.underlying47 rfl HS8.out) rfl ?_
    rw [HE.out]
    exact ⟨A, a, k, HA.out, (by rw [HLL.out]; try rfl), HER.out, HB9.out⟩
  | false =>
  rw [hg] at c2 HRP
  by_cases h1 : n.li < x.wa
  · have HE : Hid (numI B x = some (createA x (x.wa - n.li))) := by unfold Hid; rw [HRP.out, if_neg (by simp), if_pos (by omega), ← hli]
    have d1 : decide (n.li < x.wa) = true := decide_eq_true h1
    clear hli
    go_wp2_with (refine wpList_load_mid rfl 105 (.tmp 1) rfl w.heap.size 0 rfl lk _ FXc.out.rng Tryz.underlying105 rfl HLK.out.size ?_)
    clear c2 c4 c6
    refine (create_c m sv cv bv B x n d lk _ _ HLK.out).mono ?_
    rintro e wz ⟨A, a, k, hA, rfl, hrow, hb⟩
    have HA := hide hA
    have HROW := hide hrow
    have FRz := hide (FRc.out.on hb)
    have HBz := hide (bt HBc.out hb)
    have hBR := FRc.out.lt
    obtain ⟨ll, hll⟩ : ∃ ll, ll = acL A (.slice a A.es.length k) := ⟨_, rfl⟩
    rw [← hll]
    have h8 : ll.toArray.size = 8 := by rw [hll]; rfl
    have HS8 : Hid ((Tryz.prog.info? 47).map (·.size) = some ll.length) := by unfold Hid; rw [hll]; exact Tryz.sizeAct
    have HSA : Hid ((Tryz.prog.info? 47).map (·.size) = some ll.toArray.size) := by unfold Hid; rw [hll]; exact Tryz.sizeAct
    have HTH : Hid (wz.there (w.heap.size + 1) 0 ll.toArray.size) := by unfold Hid; rw [h8]; exact FRz.out.there rfl
    have HON : Hid (ll.toArray.all (·.oneCell') = true) := by unfold Hid; rw [hll]; exact acL_one _
    have HLL := hide hll
    clear hll hA hrow hb
    go_wp2_with (refine wpList_store_mid rfl 47 (.tmp 2) (.tmp 29) rfl (w.heap.size + 1) 0 ll.toArray rfl rfl HTH.out HSA.out HON.out ?_; refine Hid.out ?_)
    generalize hW : World.setCells _ _ _ _ = W9
    have FR9 : Hid (Box W9 (w.heap.size + 1) ll.toArray) := by unfold Hid; rw [← hW]; exact FRz.out.full (cs' := ll.toArray) (by rw [h8]; rfl)
    have HB9 : Hid (Below w.heap.size w W9) := by unfold Hid; rw [← hW]; exact Below.sets (by omega) _ _ HBz.out
    have HER : Hid (ERow W9 w.heap.size (.slice a A.es.length k) A.es) := by unfold Hid; rw [← hW]; exact erow_sets HROW.out (by omega) (by omega)
    clear hW
    refine hide ?_
    go_wp2
    refine bodyPost_ret (v := .tuple #[.agg ll.toArray, .bool true]) (res_care (p := 2) (q := 3) (ty := 47) Tryz.results75 _ _ (w.heap.size + 1) ll true _ rfl rfl (FR9.out.range rfl) Tryz.underlying47 rfl HS8.out) rfl ?_
    rw [HE.out]
    exact ⟨A, a, k, HA.out, (by rw [HLL.out]; try rfl), HER.out, HB9.out⟩
  have d1 : decide (n.li < x.wa) = false := decide_eq_false h1
  have g20 : wc.cell? ⟨w.heap.size, 20, none⟩ = some (.int .i64 n.ol) := by rw [FXc.out.cell 20, HLK.out]; rfl
  have g23 : wc.cell? ⟨w.heap.size, 23, none⟩ = some (.int .i64 d) := by rw [FXc.out.cell 23, HLK.out]; rfl
  have hol' := HOL.out
  have hd' := HD.out
  by_cases a1 : 0 < n.ol
  · have p1 : decide (0 < n.ol) = true := decide_eq_true a1
    by_cases e1 : n.li = x.wa
    · have HE : Hid (numI B x = none) := by unfold Hid; rw [HRP.out, if_neg (by simp), if_neg (by omega), if_pos (by omega)]
      have b1 : (n.li == x.wa) = true := by rw [beq_iff_eq]; exact e1
      clear hli hol' hd' e1
      go_wp2_with fail
      clear c2 c4 c6
      refine (rest_c _).mono ?_
      rintro e wz ⟨A, a, k, hA, rfl, hrow, hb⟩
      have HA := hide hA
      have HROW := hide hrow
      have FRz := hide (FRc.out.on hb)
      have HBz := hide (bt HBc.out hb)
      have hBR := FRc.out.lt
      obtain ⟨ll, hll⟩ : ∃ ll, ll = acL A (.slice a A.es.length k) := ⟨_, rfl⟩
      rw [← hll]
      have h8 : ll.toArray.size = 8 := by rw [hll]; rfl
      have HS8 : Hid ((Tryz.prog.info? 47).map (·.size) = some ll.length) := by unfold Hid; rw [hll]; exact Tryz.sizeAct
      have HSA : Hid ((Tryz.prog.info? 47).map (·.size) = some ll.toArray.size) := by unfold Hid; rw [hll]; exact Tryz.sizeAct
      have HTH : Hid (wz.there (w.heap.size + 1) 0 ll.toArray.size) := by unfold Hid; rw [h8]; exact FRz.out.there rfl
      have HON : Hid (ll.toArray.all (·.oneCell') = true) := by unfold Hid; rw [hll]; exact acL_one _
      have HLL := hide hll
      clear hll hA hrow hb
      go_wp2_with (refine wpList_store_mid rfl 47 (.tmp 2) (.tmp 57) rfl (w.heap.size + 1) 0 ll.toArray rfl rfl HTH.out HSA.out HON.out ?_; refine Hid.out ?_)
      generalize hW : World.setCells _ _ _ _ = W9
      have FR9 : Hid (Box W9 (w.heap.size + 1) ll.toArray) := by unfold Hid; rw [← hW]; exact FRz.out.full (cs' := ll.toArray) (by rw [h8]; rfl)
      have HB9 : Hid (Below w.heap.size w W9) := by unfold Hid; rw [← hW]; exact Below.sets (by omega) _ _ HBz.out
      have HER : Hid (ERow W9 w.heap.size (.slice a A.es.length k) A.es) := by unfold Hid; rw [← hW]; exact erow_sets HROW.out (by omega) (by omega)
      clear hW
      refine hide ?_
      go_wp2
      refine bodyPost_ret (v := .tuple #[.agg ll.toArray, .bool false]) (res_care (p := 2) (q := 3) (ty := 47) Tryz.results75 _ _ (w.heap.size + 1) ll false _ rfl rfl (FR9.out.range rfl) Tryz.underlying47 rfl HS8.out) rfl ?_
      rw [HE.out]
      exact ⟨A, a, k, HA.out, (by rw [HLL.out]; try rfl), HER.out, HB9.out⟩
    have b1 : (n.li == x.wa) = false := by rw [beq_eq_false_iff_ne]; exact e1
    by_cases l1 : n.li ≤ x.wa + x.ov
    · have HE : Hid (numI B x = none) := by unfold Hid; rw [HRP.out, if_neg (by simp), if_neg (by omega), if_pos (by omega)]
      have b3 : decide (n.li ≤ x.wa + x.ov) = true := decide_eq_true l1
      clear hli hol' hd' e1
      go_wp2_with fail
      clear c2 c4 c6
      refine (rest_c _).mono ?_
      rintro e wz ⟨A, a, k, hA, rfl, hrow, hb⟩
      have HA := hide hA
      have HROW := hide hrow
      have FRz := hide (FRc.out.on hb)
      have HBz := hide (bt HBc.out hb)
      have hBR := FRc.out.lt
      obtain ⟨ll, hll⟩ : ∃ ll, ll = acL A (.slice a A.es.length k) := ⟨_, rfl⟩
      rw [← hll]
      have h8 : ll.toArray.size = 8 := by rw [hll]; rfl
      have HS8 : Hid ((Tryz.prog.info? 47).map (·.size) = some ll.length) := by unfold Hid; rw [hll]; exact Tryz.sizeAct
      have HSA : Hid ((Tryz.prog.info? 47).map (·.size) = some ll.toArray.size) := by unfold Hid; rw [hll]; exact Tryz.sizeAct
      have HTH : Hid (wz.there (w.heap.size + 1) 0 ll.toArray.size) := by unfold Hid; rw [h8]; exact FRz.out.there rfl
      have HON : Hid (ll.toArray.all (·.oneCell') = true) := by unfold Hid; rw [hll]; exact acL_one _
      have HLL := hide hll
      clear hll hA hrow hb
      go_wp2_with (refine wpList_store_mid rfl 47 (.tmp 2) (.tmp 57) rfl (w.heap.size + 1) 0 ll.toArray rfl rfl HTH.out HSA.out HON.out ?_; refine Hid.out ?_)
      generalize hW : World.setCells _ _ _ _ = W9
      have FR9 : Hid (Box W9 (w.heap.size + 1) ll.toArray) := by unfold Hid; rw [← hW]; exact FRz.out.full (cs' := ll.toArray) (by rw [h8]; rfl)
      have HB9 : Hid (Below w.heap.size w W9) := by unfold Hid; rw [← hW]; exact Below.sets (by omega) _ _ HBz.out
      have HER : Hid (ERow W9 w.heap.size (.slice a A.es.length k) A.es) := by unfold Hid; rw [← hW]; exact erow_sets HROW.out (by omega) (by omega)
      clear hW
      refine hide ?_
      go_wp2
      refine bodyPost_ret (v := .tuple #[.agg ll.toArray, .bool false]) (res_care (p := 2) (q := 3) (ty := 47) Tryz.results75 _ _ (w.heap.size + 1) ll false _ rfl rfl (FR9.out.range rfl) Tryz.underlying47 rfl HS8.out) rfl ?_
      rw [HE.out]
      exact ⟨A, a, k, HA.out, (by rw [HLL.out]; try rfl), HER.out, HB9.out⟩
    have b3 : decide (n.li ≤ x.wa + x.ov) = false := decide_eq_false l1
    have HE : Hid (numI B x = match fstC B x.im (liveL B x.nm) with
        | some c => if mayT B x.nm c.nu then some (endA x [c]) else none
        | none => none) := by unfold Hid; rw [HRP.out, if_neg (by simp), if_neg (by omega), if_neg (by omega)]
    have HPN : Hid (0 < N) := by unfold Hid; omega
    clear hli hol' hd' e1
    go_wp2_with fail
    clear c2 c4 c6 g20 g23
    have HSK : Hid (∀ W, Below wc.heap.size wc W → W.rangeAt w.heap.size 0 lk) := fun W hW => (FXc.out.on hW).rng
    obtain ⟨M, hM⟩ := cps_subQ HK.out
    have HM := hide hM
    clear hM hbc
    go_cut [7, 8] (fun p v wd => ∃ (γ : Nat) (f : Option Cp), p = .pointer (some ⟨γ, 0, none⟩) ∧ v = .bool f.isSome ∧ Below wc.heap.size wc wd ∧ Box wd γ (cpL (f.getD zCp)).toArray ∧ wc.heap.size ≤ γ ∧ f = fstC B x.im (liveL B x.nm))
    case first =>
      refine Code.wp_mono NoPanic.imp ?_
      refine wp_region_held_drew (S := fun W => Below wc.heap.size wc W) (by kernel_rfl) ((Below.refl _ _).drew) (fun hHeld => ?_)
      refine wpAnyH_take (i := 0) rfl (by kernel_rfl) (by kernel_rfl) (by kernel_rfl) (fun _ _ _ h => h) (yieldsIf_load_mid (by rfl) 105 (.tmp 1) rfl w.heap.size 0 rfl lk _ HSK.out Tryz.underlying105 rfl HLK.out.size) hHeld ?_
      try simp only [Act.put, List.getElem_toArray, List.getElem_cons_zero, List.setIfInBounds_toArray, List.set_cons_zero, List.set_cons_succ]
      refine wpAnyH_take (i := 2) rfl (by kernel_rfl) (by kernel_rfl) (by kernel_rfl) (fun _ _ _ h => h) (yieldsIf_load_mid (by rfl) 105 (.tmp 1) rfl w.heap.size 0 rfl lk _ HSK.out Tryz.underlying105 rfl HLK.out.size) hHeld ?_
      try simp only [Act.put, List.getElem_toArray, List.getElem_cons_succ, List.getElem_cons_zero, List.setIfInBounds_toArray, List.set_cons_zero, List.set_cons_succ]
      refine wpAnyH_take (i := 3) (v := .func (.func 103) #[.agg lk.toArray] #[]) rfl (by kernel_rfl) (by kernel_rfl) (by kernel_rfl) (fun _ _ _ h => h) (Or.inl ⟨by rfl, fun W hW => by go_simp⟩) hHeld ?_
      try simp only [Act.put, List.getElem_toArray, List.getElem_cons_succ, List.getElem_cons_zero, List.setIfInBounds_toArray, List.set_cons_zero, List.set_cons_succ]
      refine wpAnyH_ready (rs := [1, 8]) (by kernel_rfl) (by simp) ?_
      refine AllReadyH.cons rfl (fun K hK => ?_) (AllReadyH.cons rfl (fun K hK => ?_) (AllReadyH.nil))
      · go_simp
        refine (callsIn_wide.1 (liveF_in lk _ 6 102 #[] #[])).mono ?_
        rintro e w1 ⟨rfl, hb1, hx1, hx2, -⟩
        have HC1 : Hid (Below wc.heap.size wc w1) := bt ((Below.refl _ _).drew) hb1
        have HX1 : Hid (Box w1 wc.heap.size lk.toArray) := hx1
        have HX2 : Hid (Box w1 (wc.heap.size + 1) #[.func (.func 102) #[] #[]]) := hx2
        clear hb1 hx1 hx2
        refine hK.out _ _ HC1.out (fun hHeld => ?_)
        clear hK K
        try simp only [Act.put, List.getElem_toArray, List.getElem_cons_succ, List.getElem_cons_zero, List.setIfInBounds_toArray, List.set_cons_zero, List.set_cons_succ]
        refine wpAnyH_ready (rs := [4, 8]) (by kernel_rfl) (by simp) ?_
        refine AllReadyH.cons rfl (fun K hK => ?_) (AllReadyH.cons rfl (fun K hK => ?_) (AllReadyH.nil))
        · go_simp
          refine (firstLive_any lo m sv cv bv B x n d lk w1 wc.heap.size (wc.heap.size + 1) (fun _ => true) 102 #[] #[] M HM.out HLK.out (HK.out.below (bt HBc.out HC1.out)) (HX.out.below (bt HBc.out HC1.out)) HV.out HX1.out HX2.out (enters_of Tryz.func102 (by kernel_rfl) rfl) (fun W y _ => stewAny_any W y.1)).mono ?_
          rintro e w2 ⟨f, rfl, hf, hb2⟩
          have HF : Hid (f = fstC B x.im (liveL B x.nm)) := hf.trans (by rw [live_any])
          have HC2 : Hid (Below wc.heap.size wc w2) := bt HC1.out hb2
          clear hf hb2
          refine hK.out _ _ HC2.out (fun hHeld => ?_)
          clear hK K
          try simp only [Act.put, List.getElem_toArray, List.getElem_cons_succ, List.getElem_cons_zero, List.setIfInBounds_toArray, List.set_cons_zero, List.set_cons_succ]
          refine wpAnyH_take (i := 5) (v := .tuple #[.agg (cpL (f.getD zCp)).toArray, .bool f.isSome]) rfl (by kernel_rfl) (by kernel_rfl) (by kernel_rfl) (fun _ _ _ h => h) (Or.inl ⟨by rfl, fun W hW => by go_simp⟩) hHeld ?_
          try simp only [Act.put, List.getElem_toArray, List.getElem_cons_succ, List.getElem_cons_zero, List.setIfInBounds_toArray, List.set_cons_zero, List.set_cons_succ]
          refine wpAnyH_take (i := 6) (v := .agg (cpL (f.getD zCp)).toArray) rfl (by kernel_rfl) (by kernel_rfl) (by kernel_rfl) (fun _ _ _ h => h) (Or.inl ⟨by rfl, fun W hW => by go_simp⟩) hHeld ?_
          try simp only [Act.put, List.getElem_toArray, List.getElem_cons_succ, List.getElem_cons_zero, List.setIfInBounds_toArray, List.set_cons_zero, List.set_cons_succ]
          refine wpAnyH_take (i := 7) (v := .bool f.isSome) rfl (by kernel_rfl) (by kernel_rfl) (by kernel_rfl) (fun _ _ _ h => h) (Or.inl ⟨by rfl, fun W hW => by go_simp⟩) hHeld ?_
          try simp only [Act.put, List.getElem_toArray, List.getElem_cons_succ, List.getElem_cons_zero, List.setIfInBounds_toArray, List.set_cons_zero, List.set_cons_succ]
          refine wpAnyH_ready (rs := [8]) (by kernel_rfl) (by simp) ?_
          refine AllReadyH.cons rfl (fun K hK => ?_) (AllReadyH.nil)
          go_simp
          refine hK.out _ _ (bt HC2.out (one_al _ _)) (fun hHeld => ?_)
          clear hK K
          try simp only [Act.put, List.getElem_toArray, List.getElem_cons_succ, List.getElem_cons_zero, List.setIfInBounds_toArray, List.set_cons_zero, List.set_cons_succ]
          generalize hW2 : World.alloc _ _ = W3 at *
          have H2 : Hid (Below wc.heap.size wc W3) := by unfold Hid; rw [← hW2]; exact bt HC2.out (one_al _ _)
          have HA : Hid (Box W3 w2.heap.size (cpL zCp).toArray) := by unfold Hid; rw [← hW2]; exact Box.new _ _ _ _ rfl
          clear hW2
          refine wpAnyH_ready (rs := [9]) (by kernel_rfl) (by simp) ?_
          refine AllReadyH.cons rfl (fun K hK => ?_) (AllReadyH.nil)
          rw [if_pos (by rfl)]
          have HLE : Hid (wc.heap.size ≤ w2.heap.size) := HC2.out.size
          have HT : Hid (W3.there w2.heap.size 0 7) := Box.there HA.out rfl
          refine wp_store_mid 82 (.tmp 7) (.tmp 65) rfl w2.heap.size 0 (cpL (f.getD zCp)).toArray rfl rfl HT.out Tryz.sizeCopy (cpL_all _) ?_
          refine hK.out _ _ (Below.sets HLE.out _ _ H2.out) (fun hHeld => ?_)
          clear hK K
          try simp only [Act.put, List.getElem_toArray, List.getElem_cons_succ, List.getElem_cons_zero]
          refine wpAnyH_take (i := 10) (v := .bool f.isSome) rfl (by kernel_rfl) (by kernel_rfl) (by kernel_rfl) (fun _ _ _ h => h) (Or.inl ⟨by rfl, fun W hW => by go_simp⟩) hHeld ?_
          try simp only [Act.put, List.getElem_toArray, List.getElem_cons_succ, List.getElem_cons_zero, List.setIfInBounds_toArray, List.set_cons_zero, List.set_cons_succ]
          refine wpAnyH_done (by kernel_rfl) ?_ _
          try simp only [List.getElem_toArray, List.getElem_cons_succ, List.getElem_cons_zero]
          refine NoPanic.normal ?_
          go_wp2
          go_meet
          exact ⟨w2.heap.size, f, rfl, rfl, Below.sets HLE.out _ _ H2.out, Box.full (cs' := (cpL (f.getD zCp)).toArray) HA.out rfl, HLE.out, HF.out⟩
        · go_simp
          refine hK.out _ _ (bt HC1.out (one_al _ _)) (fun hHeld => ?_)
          clear hK K
          try simp only [Act.put, List.getElem_toArray, List.getElem_cons_succ, List.getElem_cons_zero, List.setIfInBounds_toArray, List.set_cons_zero, List.set_cons_succ]
          generalize hW2 : World.alloc _ _ = W2 at *
          have H2 : Hid (Below wc.heap.size wc W2) := by unfold Hid; rw [← hW2]; exact bt HC1.out (one_al _ _)
          have HA : Hid (Box W2 w1.heap.size (cpL zCp).toArray) := by unfold Hid; rw [← hW2]; exact Box.new _ _ _ _ rfl
          have HY1 : Hid (Box W2 wc.heap.size lk.toArray) := by unfold Hid; rw [← hW2]; exact HX1.out.on (one_al _ _)
          have HY2 : Hid (Box W2 (wc.heap.size + 1) #[.func (.func 102) #[] #[]]) := by unfold Hid; rw [← hW2]; exact HX2.out.on (one_al _ _)
          clear hW2
          refine wpAnyH_ready (rs := [4]) (by kernel_rfl) (by simp) ?_
          refine AllReadyH.cons rfl (fun K hK => ?_) (AllReadyH.nil)
          go_simp
          refine (firstLive_any lo m sv cv bv B x n d lk W2 wc.heap.size (wc.heap.size + 1) (fun _ => true) 102 #[] #[] M HM.out HLK.out (HK.out.below (bt HBc.out H2.out)) (HX.out.below (bt HBc.out H2.out)) HV.out HY1.out HY2.out (enters_of Tryz.func102 (by kernel_rfl) rfl) (fun W y _ => stewAny_any W y.1)).mono ?_
          rintro e w3 ⟨f, rfl, hf, hb2⟩
          have HF : Hid (f = fstC B x.im (liveL B x.nm)) := hf.trans (by rw [live_any])
          have HC2 : Hid (Below wc.heap.size wc w3) := bt H2.out hb2
          have HA2 := hide (HA.out.on hb2)
          clear hf hb2
          refine hK.out _ _ HC2.out (fun hHeld => ?_)
          clear hK K
          try simp only [Act.put, List.getElem_toArray, List.getElem_cons_succ, List.getElem_cons_zero, List.setIfInBounds_toArray, List.set_cons_zero, List.set_cons_succ]
          refine wpAnyH_take (i := 5) (v := .tuple #[.agg (cpL (f.getD zCp)).toArray, .bool f.isSome]) rfl (by kernel_rfl) (by kernel_rfl) (by kernel_rfl) (fun _ _ _ h => h) (Or.inl ⟨by rfl, fun W hW => by go_simp⟩) hHeld ?_
          try simp only [Act.put, List.getElem_toArray, List.getElem_cons_succ, List.getElem_cons_zero, List.setIfInBounds_toArray, List.set_cons_zero, List.set_cons_succ]
          refine wpAnyH_take (i := 6) (v := .agg (cpL (f.getD zCp)).toArray) rfl (by kernel_rfl) (by kernel_rfl) (by kernel_rfl) (fun _ _ _ h => h) (Or.inl ⟨by rfl, fun W hW => by go_simp⟩) hHeld ?_
          try simp only [Act.put, List.getElem_toArray, List.getElem_cons_succ, List.getElem_cons_zero, List.setIfInBounds_toArray, List.set_cons_zero, List.set_cons_succ]
          refine wpAnyH_take (i := 7) (v := .bool f.isSome) rfl (by kernel_rfl) (by kernel_rfl) (by kernel_rfl) (fun _ _ _ h => h) (Or.inl ⟨by rfl, fun W hW => by go_simp⟩) hHeld ?_
          try simp only [Act.put, List.getElem_toArray, List.getElem_cons_succ, List.getElem_cons_zero, List.setIfInBounds_toArray, List.set_cons_zero, List.set_cons_succ]
          refine wpAnyH_ready (rs := [9]) (by kernel_rfl) (by simp) ?_
          refine AllReadyH.cons rfl (fun K hK => ?_) (AllReadyH.nil)
          rw [if_pos (by rfl)]
          have HLE : Hid (wc.heap.size ≤ w1.heap.size) := HC1.out.size
          have HT : Hid (w3.there w1.heap.size 0 7) := Box.there HA2.out rfl
          refine wp_store_mid 82 (.tmp 7) (.tmp 65) rfl w1.heap.size 0 (cpL (f.getD zCp)).toArray rfl rfl HT.out Tryz.sizeCopy (cpL_all _) ?_
          refine hK.out _ _ (Below.sets HLE.out _ _ HC2.out) (fun hHeld => ?_)
          clear hK K
          try simp only [Act.put, List.getElem_toArray, List.getElem_cons_succ, List.getElem_cons_zero]
          refine wpAnyH_take (i := 10) (v := .bool f.isSome) rfl (by kernel_rfl) (by kernel_rfl) (by kernel_rfl) (fun _ _ _ h => h) (Or.inl ⟨by rfl, fun W hW => by go_simp⟩) hHeld ?_
          try simp only [Act.put, List.getElem_toArray, List.getElem_cons_succ, List.getElem_cons_zero, List.setIfInBounds_toArray, List.set_cons_zero, List.set_cons_succ]
          refine wpAnyH_done (by kernel_rfl) ?_ _
          try simp only [List.getElem_toArray, List.getElem_cons_succ, List.getElem_cons_zero]
          refine NoPanic.normal ?_
          go_wp2
          go_meet
          exact ⟨w1.heap.size, f, rfl, rfl, Below.sets HLE.out _ _ HC2.out, Box.full (cs' := (cpL (f.getD zCp)).toArray) HA2.out rfl, HLE.out, HF.out⟩
      · go_simp
        refine hK.out _ _ ((one_al _ _).drew) (fun hHeld => ?_)
        clear hK K
        try simp only [Act.put, List.getElem_toArray, List.getElem_cons_succ, List.getElem_cons_zero, List.setIfInBounds_toArray, List.set_cons_zero, List.set_cons_succ]
        generalize hW2 : World.alloc _ _ = W2 at *
        have H2 : Hid (Below wc.heap.size wc W2) := by unfold Hid; rw [← hW2]; exact one_al _ _
        have HA : Hid (Box W2 wc.heap.size (cpL zCp).toArray) := by unfold Hid; rw [← hW2]; exact Box.new _ _ _ _ rfl
        clear hW2
        refine wpAnyH_ready (rs := [1]) (by kernel_rfl) (by simp) ?_
        refine AllReadyH.cons rfl (fun K hK => ?_) (AllReadyH.nil)
        go_simp
        refine (callsIn_wide.1 (liveF_in lk _ 6 102 #[] #[])).mono ?_
        rintro e w1 ⟨rfl, hb1, hx1, hx2, -⟩
        have HC1 : Hid (Below wc.heap.size wc w1) := bt H2.out.drew hb1
        have HX1 : Hid (Box w1 W2.heap.size lk.toArray) := hx1
        have HX2 : Hid (Box w1 (W2.heap.size + 1) #[.func (.func 102) #[] #[]]) := hx2
        have HA1 := hide (HA.out.drew.on hb1)
        clear hb1 hx1 hx2
        refine hK.out _ _ HC1.out (fun hHeld => ?_)
        clear hK K
        try simp only [Act.put, List.getElem_toArray, List.getElem_cons_succ, List.getElem_cons_zero, List.setIfInBounds_toArray, List.set_cons_zero, List.set_cons_succ]
        refine wpAnyH_ready (rs := [4]) (by kernel_rfl) (by simp) ?_
        refine AllReadyH.cons rfl (fun K hK => ?_) (AllReadyH.nil)
        go_simp
        refine (firstLive_any lo m sv cv bv B x n d lk w1 W2.heap.size (W2.heap.size + 1) (fun _ => true) 102 #[] #[] M HM.out HLK.out (HK.out.below (bt HBc.out HC1.out)) (HX.out.below (bt HBc.out HC1.out)) HV.out HX1.out HX2.out (enters_of Tryz.func102 (by kernel_rfl) rfl) (fun W y _ => stewAny_any W y.1)).mono ?_
        rintro e w3 ⟨f, rfl, hf, hb2⟩
        have HF : Hid (f = fstC B x.im (liveL B x.nm)) := hf.trans (by rw [live_any])
        have HC2 : Hid (Below wc.heap.size wc w3) := bt HC1.out hb2
        have HA2 := hide (HA1.out.on hb2)
        clear hf hb2
        refine hK.out _ _ HC2.out (fun hHeld => ?_)
        clear hK K
        try simp only [Act.put, List.getElem_toArray, List.getElem_cons_succ, List.getElem_cons_zero, List.setIfInBounds_toArray, List.set_cons_zero, List.set_cons_succ]
        refine wpAnyH_take (i := 5) (v := .tuple #[.agg (cpL (f.getD zCp)).toArray, .bool f.isSome]) rfl (by kernel_rfl) (by kernel_rfl) (by kernel_rfl) (fun _ _ _ h => h) (Or.inl ⟨by rfl, fun W hW => by go_simp⟩) hHeld ?_
        try simp only [Act.put, List.getElem_toArray, List.getElem_cons_succ, List.getElem_cons_zero, List.setIfInBounds_toArray, List.set_cons_zero, List.set_cons_succ]
        refine wpAnyH_take (i := 6) (v := .agg (cpL (f.getD zCp)).toArray) rfl (by kernel_rfl) (by kernel_rfl) (by kernel_rfl) (fun _ _ _ h => h) (Or.inl ⟨by rfl, fun W hW => by go_simp⟩) hHeld ?_
        try simp only [Act.put, List.getElem_toArray, List.getElem_cons_succ, List.getElem_cons_zero, List.setIfInBounds_toArray, List.set_cons_zero, List.set_cons_succ]
        refine wpAnyH_take (i := 7) (v := .bool f.isSome) rfl (by kernel_rfl) (by kernel_rfl) (by kernel_rfl) (fun _ _ _ h => h) (Or.inl ⟨by rfl, fun W hW => by go_simp⟩) hHeld ?_
        try simp only [Act.put, List.getElem_toArray, List.getElem_cons_succ, List.getElem_cons_zero, List.setIfInBounds_toArray, List.set_cons_zero, List.set_cons_succ]
        refine wpAnyH_ready (rs := [9]) (by kernel_rfl) (by simp) ?_
        refine AllReadyH.cons rfl (fun K hK => ?_) (AllReadyH.nil)
        rw [if_pos (by rfl)]
        have HLE : Hid (wc.heap.size ≤ wc.heap.size) := Nat.le_refl _
        have HT : Hid (w3.there wc.heap.size 0 7) := Box.there HA2.out rfl
        refine wp_store_mid 82 (.tmp 7) (.tmp 65) rfl wc.heap.size 0 (cpL (f.getD zCp)).toArray rfl rfl HT.out Tryz.sizeCopy (cpL_all _) ?_
        refine hK.out _ _ (Below.sets HLE.out _ _ HC2.out) (fun hHeld => ?_)
        clear hK K
        try simp only [Act.put, List.getElem_toArray, List.getElem_cons_succ, List.getElem_cons_zero]
        refine wpAnyH_take (i := 10) (v := .bool f.isSome) rfl (by kernel_rfl) (by kernel_rfl) (by kernel_rfl) (fun _ _ _ h => h) (Or.inl ⟨by rfl, fun W hW => by go_simp⟩) hHeld ?_
        try simp only [Act.put, List.getElem_toArray, List.getElem_cons_succ, List.getElem_cons_zero, List.setIfInBounds_toArray, List.set_cons_zero, List.set_cons_succ]
        refine wpAnyH_done (by kernel_rfl) ?_ _
        try simp only [List.getElem_toArray, List.getElem_cons_succ, List.getElem_cons_zero]
        refine NoPanic.normal ?_
        go_wp2
        go_meet
        exact ⟨wc.heap.size, f, rfl, rfl, Below.sets HLE.out _ _ HC2.out, Box.full (cs' := (cpL (f.getD zCp)).toArray) HA2.out rfl, HLE.out, HF.out⟩
    case rest =>
    revert wc
    intro wd hcut
    obtain ⟨γ, f, rfl, rfl, hbd, hfb, hγ, hf⟩ := hcut
    have FXd := hide (FXc.out.on hbd)
    have FRd := hide (FRc.out.on hbd)
    have HBd := hide (bt HBc.out hbd)
    have HFB := hide hfb
    clear hfb FXc FRc
    cases f with
    | none =>
      exfalso
      have h1 := HPN.out
      rw [HNL.out] at h1
      cases hl : liveL B x.nm with
      | nil => rw [hl] at h1; simp at h1
      | cons c r => rw [hl] at hf; cases hf
    | some c =>
      have hcm := fstC_mem hf.symm
      have h1 := List.mem_filter.1 hcm
      have h2 : mineB x.nm c = true := by
        have := h1.2
        unfold liveB at this
        simp only [Bool.and_eq_true] at this
        exact this.1
      have hse : c.se = x.nm := bytes_eq.1 h2
      have HCM : Hid (c ∈ B.cs) := h1.1
      have HSC : Hid (svF B.ss c.se = some x) := by unfold Hid; rw [hse]; exact HSX.out
      have HE2 : Hid (numI B x = if mayT B c.se c.nu then some (endA x [c]) else none) := by unfold Hid; rw [HE.out, ← hf, hse]
      have HRC : Hid (wd.rangeAt γ 0 [.string c.se, .int .i64 c.nu, .int .i64 c.ve, .int .i64 c.im, .int .i64 c.st, .bool c.en, .string c.be]) := HFB.out.range rfl
      clear hf HE hcm h1 h2 hse
      go_wp2_with (first
        | (refine wpList_load_mid rfl 105 (.tmp 1) rfl w.heap.size 0 rfl lk _ FXd.out.rng Tryz.underlying105 rfl HLK.out.size ?_)
        | (refine wpList_load_mid rfl 82 (.tmp 7) rfl γ 0 rfl [.string c.se, .int .i64 c.nu, .int .i64 c.ve, .int .i64 c.im, .int .i64 c.st, .bool c.en, .string c.be] _ HRC.out Tryz.underlying82 rfl Tryz.sizeCopy ?_))
      refine (lookMay_any lo m sv cv bv B x n d lk c _ HLK.out (HK.out.below HBd.out) HCM.out HSC.out (valid_cps HV.out).1 (valid_cps HV.out).2.2.1 (valid_cps HV.out).2.2.2 HW.out).mono ?_
      rintro e we ⟨rfl, hbe⟩
      have FXe := hide (FXd.out.on hbe)
      have FRe := hide (FRd.out.on hbe)
      have HBe := hide (bt HBd.out hbe)
      have HRE : Hid (we.rangeAt γ 0 [.string c.se, .int .i64 c.nu, .int .i64 c.ve, .int .i64 c.im, .int .i64 c.st, .bool c.en, .string c.be]) := rng_below HRC.out hbe HFB.out.lt
      clear hbe FXd FRd HBd HRC
      cases hm : mayT B c.se c.nu with
      | false =>
        have HE3 : Hid (numI B x = none) := by unfold Hid; rw [HE2.out, hm]; rfl
        go_wp2_with fail
        refine (rest_c _).mono ?_
        rintro e wz ⟨A, a, k, hA, rfl, hrow, hb⟩
        have HA := hide hA
        have HROW := hide hrow
        have FRz := hide (FRe.out.on hb)
        have HBz := hide (bt HBe.out hb)
        have hBR := FRe.out.lt
        obtain ⟨ll, hll⟩ : ∃ ll, ll = acL A (.slice a A.es.length k) := ⟨_, rfl⟩
        rw [← hll]
        have h8 : ll.toArray.size = 8 := by rw [hll]; rfl
        have HS8 : Hid ((Tryz.prog.info? 47).map (·.size) = some ll.length) := by unfold Hid; rw [hll]; exact Tryz.sizeAct
        have HSA : Hid ((Tryz.prog.info? 47).map (·.size) = some ll.toArray.size) := by unfold Hid; rw [hll]; exact Tryz.sizeAct
        have HTH : Hid (wz.there (w.heap.size + 1) 0 ll.toArray.size) := by unfold Hid; rw [h8]; exact FRz.out.there rfl
        have HON : Hid (ll.toArray.all (·.oneCell') = true) := by unfold Hid; rw [hll]; exact acL_one _
        have HLL := hide hll
        clear hll hA hrow hb
        go_wp2_with (refine wpList_store_mid rfl 47 (.tmp 2) (.tmp 72) rfl (w.heap.size + 1) 0 ll.toArray rfl rfl HTH.out HSA.out HON.out ?_; refine Hid.out ?_)
        generalize hW : World.setCells _ _ _ _ = W9
        have FR9 : Hid (Box W9 (w.heap.size + 1) ll.toArray) := by unfold Hid; rw [← hW]; exact FRz.out.full (cs' := ll.toArray) (by rw [h8]; rfl)
        have HB9 : Hid (Below w.heap.size w W9) := by unfold Hid; rw [← hW]; exact Below.sets (by omega) _ _ HBz.out
        have HER : Hid (ERow W9 w.heap.size (.slice a A.es.length k) A.es) := by unfold Hid; rw [← hW]; exact erow_sets HROW.out (by omega) (by omega)
        clear hW
        refine hide ?_
        go_wp2
        refine bodyPost_ret (v := .tuple #[.agg ll.toArray, .bool false]) (res_care (p := 2) (q := 3) (ty := 47) Tryz.results75 _ _ (w.heap.size + 1) ll false _ rfl rfl (FR9.out.range rfl) Tryz.underlying47 rfl HS8.out) rfl ?_
        rw [HE3.out]
        exact ⟨A, a, k, HA.out, (by rw [HLL.out]; try rfl), HER.out, HB9.out⟩
      | true =>
        have HE3 : Hid (numI B x = some (endA x [c])) := by unfold Hid; rw [HE2.out, hm]; rfl
        go_wp2_with (first
          | (refine wpList_load_mid rfl 105 (.tmp 1) rfl w.heap.size 0 rfl lk _ FXe.out.rng Tryz.underlying105 rfl HLK.out.size ?_)
          | (refine wpList_load_mid rfl 82 (.tmp 7) rfl γ 0 rfl [.string c.se, .int .i64 c.nu, .int .i64 c.ve, .int .i64 c.im, .int .i64 c.st, .bool c.en, .string c.be] _ HRE.out Tryz.underlying82 rfl Tryz.sizeCopy ?_))
        generalize hWe : we.alloc _ = We
        have hbf : Below we.heap.size we We := by rw [← hWe]; exact one_al _ _
        have HBL : Hid (CpBl We we.heap.size [c]) := by
          have hb := Box.new we #[.string c.se, .int .i64 c.nu, .int .i64 c.ve, .int .i64 c.im, .int .i64 c.st, .bool c.en, .string c.be] 82 we.heap.size rfl
          rw [hWe] at hb
          refine ⟨hb.lt, fun i hi => ?_⟩
          have e0 : i = 0 := by simp at hi; omega
          subst e0
          exact hb.range rfl
        have FRf := hide (FRe.out.on hbf)
        have HBf := hide (bt HBe.out hbf)
        clear hWe hbf
        refine (end_c m sv cv bv B x n d lk _ _ 1 [c] HLK.out HBL.out (by simp)).mono ?_
        rintro e wz ⟨A, a, k, hA, rfl, hrow, hb⟩
        have HA := hide hA
        have HROW := hide hrow
        have FRz := hide (FRf.out.on hb)
        have HBz := hide (bt HBf.out hb)
        have hBR := FRf.out.lt
        obtain ⟨ll, hll⟩ : ∃ ll, ll = acL A (.slice a A.es.length k) := ⟨_, rfl⟩
        rw [← hll]
        have h8 : ll.toArray.size = 8 := by rw [hll]; rfl
        have HS8 : Hid ((Tryz.prog.info? 47).map (·.size) = some ll.length) := by unfold Hid; rw [hll]; exact Tryz.sizeAct
        have HSA : Hid ((Tryz.prog.info? 47).map (·.size) = some ll.toArray.size) := by unfold Hid; rw [hll]; exact Tryz.sizeAct
        have HTH : Hid (wz.there (w.heap.size + 1) 0 ll.toArray.size) := by unfold Hid; rw [h8]; exact FRz.out.there rfl
        have HON : Hid (ll.toArray.all (·.oneCell') = true) := by unfold Hid; rw [hll]; exact acL_one _
        have HLL := hide hll
        clear hll hA hrow hb
        go_wp2_with (refine wpList_store_mid rfl 47 (.tmp 2) (.tmp 78) rfl (w.heap.size + 1) 0 ll.toArray rfl rfl HTH.out HSA.out HON.out ?_; refine Hid.out ?_)
        generalize hW : World.setCells _ _ _ _ = W9
        have FR9 : Hid (Box W9 (w.heap.size + 1) ll.toArray) := by unfold Hid; rw [← hW]; exact FRz.out.full (cs' := ll.toArray) (by rw [h8]; rfl)
        have HB9 : Hid (Below w.heap.size w W9) := by unfold Hid; rw [← hW]; exact Below.sets (by omega) _ _ HBz.out
        have HER : Hid (ERow W9 w.heap.size (.slice a A.es.length k) A.es) := by unfold Hid; rw [← hW]; exact erow_sets HROW.out (by omega) (by omega)
        clear hW
        refine hide ?_
        go_wp2
        refine bodyPost_ret (v := .tuple #[.agg ll.toArray, .bool true]) (res_care (p := 2) (q := 3) (ty := 47) Tryz.results75 _ _ (w.heap.size + 1) ll true _ rfl rfl (FR9.out.range rfl) Tryz.underlying47 rfl HS8.out) rfl ?_
        rw [HE3.out]
        exact ⟨A, a, k, HA.out, (by rw [HLL.out]; try rfl), HER.out, HB9.out⟩
  have p1 : decide (0 < n.ol) = false := decide_eq_false a1
  by_cases a2 : 0 < d
  · have p2 : decide (0 < d) = true := decide_eq_true a2
    by_cases e1 : n.li = x.wa
    · have HE : Hid (numI B x = none) := by unfold Hid; rw [HRP.out, if_neg (by simp), if_neg (by omega), if_pos (by omega)]
      have b1 : (n.li == x.wa) = true := by rw [beq_iff_eq]; exact e1
      clear hli hol' hd' e1
      go_wp2_with fail
      clear c2 c4 c6
      refine (rest_c _).mono ?_
      rintro e wz ⟨A, a, k, hA, rfl, hrow, hb⟩
      have HA := hide hA
      have HROW := hide hrow
      have FRz := hide (FRc.out.on hb)
      have HBz := hide (bt HBc.out hb)
      have hBR := FRc.out.lt
      obtain ⟨ll, hll⟩ : ∃ ll, ll = acL A (.slice a A.es.length k) := ⟨_, rfl⟩
      rw [← hll]
      have h8 : ll.toArray.size = 8 := by rw [hll]; rfl
      have HS8 : Hid ((Tryz.prog.info? 47).map (·.size) = some ll.length) := by unfold Hid; rw [hll]; exact Tryz.sizeAct
      have HSA : Hid ((Tryz.prog.info? 47).map (·.size) = some ll.toArray.size) := by unfold Hid; rw [hll]; exact Tryz.sizeAct
      have HTH : Hid (wz.there (w.heap.size + 1) 0 ll.toArray.size) := by unfold Hid; rw [h8]; exact FRz.out.there rfl
      have HON : Hid (ll.toArray.all (·.oneCell') = true) := by unfold Hid; rw [hll]; exact acL_one _
      have HLL := hide hll
      clear hll hA hrow hb
      go_wp2_with (refine wpList_store_mid rfl 47 (.tmp 2) (.tmp 57) rfl (w.heap.size + 1) 0 ll.toArray rfl rfl HTH.out HSA.out HON.out ?_; refine Hid.out ?_)
      generalize hW : World.setCells _ _ _ _ = W9
      have FR9 : Hid (Box W9 (w.heap.size + 1) ll.toArray) := by unfold Hid; rw [← hW]; exact FRz.out.full (cs' := ll.toArray) (by rw [h8]; rfl)
      have HB9 : Hid (Below w.heap.size w W9) := by unfold Hid; rw [← hW]; exact Below.sets (by omega) _ _ HBz.out
      have HER : Hid (ERow W9 w.heap.size (.slice a A.es.length k) A.es) := by unfold Hid; rw [← hW]; exact erow_sets HROW.out (by omega) (by omega)
      clear hW
      refine hide ?_
      go_wp2
      refine bodyPost_ret (v := .tuple #[.agg ll.toArray, .bool false]) (res_care (p := 2) (q := 3) (ty := 47) Tryz.results75 _ _ (w.heap.size + 1) ll false _ rfl rfl (FR9.out.range rfl) Tryz.underlying47 rfl HS8.out) rfl ?_
      rw [HE.out]
      exact ⟨A, a, k, HA.out, (by rw [HLL.out]; try rfl), HER.out, HB9.out⟩
    have b1 : (n.li == x.wa) = false := by rw [beq_eq_false_iff_ne]; exact e1
    by_cases l1 : n.li ≤ x.wa + x.ov
    · have HE : Hid (numI B x = none) := by unfold Hid; rw [HRP.out, if_neg (by simp), if_neg (by omega), if_pos (by omega)]
      have b3 : decide (n.li ≤ x.wa + x.ov) = true := decide_eq_true l1
      clear hli hol' hd' e1
      go_wp2_with fail
      clear c2 c4 c6
      refine (rest_c _).mono ?_
      rintro e wz ⟨A, a, k, hA, rfl, hrow, hb⟩
      have HA := hide hA
      have HROW := hide hrow
      have FRz := hide (FRc.out.on hb)
      have HBz := hide (bt HBc.out hb)
      have hBR := FRc.out.lt
      obtain ⟨ll, hll⟩ : ∃ ll, ll = acL A (.slice a A.es.length k) := ⟨_, rfl⟩
      rw [← hll]
      have h8 : ll.toArray.size = 8 := by rw [hll]; rfl
      have HS8 : Hid ((Tryz.prog.info? 47).map (·.size) = some ll.length) := by unfold Hid; rw [hll]; exact Tryz.sizeAct
      have HSA : Hid ((Tryz.prog.info? 47).map (·.size) = some ll.toArray.size) := by unfold Hid; rw [hll]; exact Tryz.sizeAct
      have HTH : Hid (wz.there (w.heap.size + 1) 0 ll.toArray.size) := by unfold Hid; rw [h8]; exact FRz.out.there rfl
      have HON : Hid (ll.toArray.all (·.oneCell') = true) := by unfold Hid; rw [hll]; exact acL_one _
      have HLL := hide hll
      clear hll hA hrow hb
      go_wp2_with (refine wpList_store_mid rfl 47 (.tmp 2) (.tmp 57) rfl (w.heap.size + 1) 0 ll.toArray rfl rfl HTH.out HSA.out HON.out ?_; refine Hid.out ?_)
      generalize hW : World.setCells _ _ _ _ = W9
      have FR9 : Hid (Box W9 (w.heap.size + 1) ll.toArray) := by unfold Hid; rw [← hW]; exact FRz.out.full (cs' := ll.toArray) (by rw [h8]; rfl)
      have HB9 : Hid (Below w.heap.size w W9) := by unfold Hid; rw [← hW]; exact Below.sets (by omega) _ _ HBz.out
      have HER : Hid (ERow W9 w.heap.size (.slice a A.es.length k) A.es) := by unfold Hid; rw [← hW]; exact erow_sets HROW.out (by omega) (by omega)
      clear hW
      refine hide ?_
      go_wp2
      refine bodyPost_ret (v := .tuple #[.agg ll.toArray, .bool false]) (res_care (p := 2) (q := 3) (ty := 47) Tryz.results75 _ _ (w.heap.size + 1) ll false _ rfl rfl (FR9.out.range rfl) Tryz.underlying47 rfl HS8.out) rfl ?_
      rw [HE.out]
      exact ⟨A, a, k, HA.out, (by rw [HLL.out]; try rfl), HER.out, HB9.out⟩
    have b3 : decide (n.li ≤ x.wa + x.ov) = false := decide_eq_false l1
    have HE : Hid (numI B x = match fstC B x.im (liveL B x.nm) with
        | some c => if mayT B x.nm c.nu then some (endA x [c]) else none
        | none => none) := by unfold Hid; rw [HRP.out, if_neg (by simp), if_neg (by omega), if_neg (by omega)]
    have HPN : Hid (0 < N) := by unfold Hid; omega
    clear hli hol' hd' e1
    go_wp2_with fail
    clear c2 c4 c6 g20 g23
    have HSK : Hid (∀ W, Below wc.heap.size wc W → W.rangeAt w.heap.size 0 lk) := fun W hW => (FXc.out.on hW).rng
    obtain ⟨M, hM⟩ := cps_subQ HK.out
    have HM := hide hM
    clear hM hbc
    go_cut [7, 8] (fun p v wd => ∃ (γ : Nat) (f : Option Cp), p = .pointer (some ⟨γ, 0, none⟩) ∧ v = .bool f.isSome ∧ Below wc.heap.size wc wd ∧ Box wd γ (cpL (f.getD zCp)).toArray ∧ wc.heap.size ≤ γ ∧ f = fstC B x.im (liveL B x.nm))
    case first =>
      refine Code.wp_mono NoPanic.imp ?_
      refine wp_region_held_drew (S := fun W => Below wc.heap.size wc W) (by kernel_rfl) ((Below.refl _ _).drew) (fun hHeld => ?_)
      refine wpAnyH_take (i := 0) rfl (by kernel_rfl) (by kernel_rfl) (by kernel_rfl) (fun _ _ _ h => h) (yieldsIf_load_mid (by rfl) 105 (.tmp 1) rfl w.heap.size 0 rfl lk _ HSK.out Tryz.underlying105 rfl HLK.out.size) hHeld ?_
      try simp only [Act.put, List.getElem_toArray, List.getElem_cons_zero, List.setIfInBounds_toArray, List.set_cons_zero, List.set_cons_succ]
      refine wpAnyH_take (i := 2) rfl (by kernel_rfl) (by kernel_rfl) (by kernel_rfl) (fun _ _ _ h => h) (yieldsIf_load_mid (by rfl) 105 (.tmp 1) rfl w.heap.size 0 rfl lk _ HSK.out Tryz.underlying105 rfl HLK.out.size) hHeld ?_
      try simp only [Act.put, List.getElem_toArray, List.getElem_cons_succ, List.getElem_cons_zero, List.setIfInBounds_toArray, List.set_cons_zero, List.set_cons_succ]
      refine wpAnyH_take (i := 3) (v := .func (.func 103) #[.agg lk.toArray] #[]) rfl (by kernel_rfl) (by kernel_rfl) (by kernel_rfl) (fun _ _ _ h => h) (Or.inl ⟨by rfl, fun W hW => by go_simp⟩) hHeld ?_
      try simp only [Act.put, List.getElem_toArray, List.getElem_cons_succ, List.getElem_cons_zero, List.setIfInBounds_toArray, List.set_cons_zero, List.set_cons_succ]
      refine wpAnyH_ready (rs := [1, 8]) (by kernel_rfl) (by simp) ?_
      refine AllReadyH.cons rfl (fun K hK => ?_) (AllReadyH.cons rfl (fun K hK => ?_) (AllReadyH.nil))
      · go_simp
        refine (callsIn_wide.1 (liveF_in lk _ 6 102 #[] #[])).mono ?_
        rintro e w1 ⟨rfl, hb1, hx1, hx2, -⟩
        have HC1 : Hid (Below wc.heap.size wc w1) := bt ((Below.refl _ _).drew) hb1
        have HX1 : Hid (Box w1 wc.heap.size lk.toArray) := hx1
        have HX2 : Hid (Box w1 (wc.heap.size + 1) #[.func (.func 102) #[] #[]]) := hx2
        clear hb1 hx1 hx2
        refine hK.out _ _ HC1.out (fun hHeld => ?_)
        clear hK K
        try simp only [Act.put, List.getElem_toArray, List.getElem_cons_succ, List.getElem_cons_zero, List.setIfInBounds_toArray, List.set_cons_zero, List.set_cons_succ]
        refine wpAnyH_ready (rs := [4, 8]) (by kernel_rfl) (by simp) ?_
        refine AllReadyH.cons rfl (fun K hK => ?_) (AllReadyH.cons rfl (fun K hK => ?_) (AllReadyH.nil))
        · go_simp
          refine (firstLive_any lo m sv cv bv B x n d lk w1 wc.heap.size (wc.heap.size + 1) (fun _ => true) 102 #[] #[] M HM.out HLK.out (HK.out.below (bt HBc.out HC1.out)) (HX.out.below (bt HBc.out HC1.out)) HV.out HX1.out HX2.out (enters_of Tryz.func102 (by kernel_rfl) rfl) (fun W y _ => stewAny_any W y.1)).mono ?_
          rintro e w2 ⟨f, rfl, hf, hb2⟩
          have HF : Hid (f = fstC B x.im (liveL B x.nm)) := hf.trans (by rw [live_any])
          have HC2 : Hid (Below wc.heap.size wc w2) := bt HC1.out hb2
          clear hf hb2
          refine hK.out _ _ HC2.out (fun hHeld => ?_)
          clear hK K
          try simp only [Act.put, List.getElem_toArray, List.getElem_cons_succ, List.getElem_cons_zero, List.setIfInBounds_toArray, List.set_cons_zero, List.set_cons_succ]
          refine wpAnyH_take (i := 5) (v := .tuple #[.agg (cpL (f.getD zCp)).toArray, .bool f.isSome]) rfl (by kernel_rfl) (by kernel_rfl) (by kernel_rfl) (fun _ _ _ h => h) (Or.inl ⟨by rfl, fun W hW => by go_simp⟩) hHeld ?_
          try simp only [Act.put, List.getElem_toArray, List.getElem_cons_succ, List.getElem_cons_zero, List.setIfInBounds_toArray, List.set_cons_zero, List.set_cons_succ]
          refine wpAnyH_take (i := 6) (v := .agg (cpL (f.getD zCp)).toArray) rfl (by kernel_rfl) (by kernel_rfl) (by kernel_rfl) (fun _ _ _ h => h) (Or.inl ⟨by rfl, fun W hW => by go_simp⟩) hHeld ?_
          try simp only [Act.put, List.getElem_toArray, List.getElem_cons_succ, List.getElem_cons_zero, List.setIfInBounds_toArray, List.set_cons_zero, List.set_cons_succ]
          refine wpAnyH_take (i := 7) (v := .bool f.isSome) rfl (by kernel_rfl) (by kernel_rfl) (by kernel_rfl) (fun _ _ _ h => h) (Or.inl ⟨by rfl, fun W hW => by go_simp⟩) hHeld ?_
          try simp only [Act.put, List.getElem_toArray, List.getElem_cons_succ, List.getElem_cons_zero, List.setIfInBounds_toArray, List.set_cons_zero, List.set_cons_succ]
          refine wpAnyH_ready (rs := [8]) (by kernel_rfl) (by simp) ?_
          refine AllReadyH.cons rfl (fun K hK => ?_) (AllReadyH.nil)
          go_simp
          refine hK.out _ _ (bt HC2.out (one_al _ _)) (fun hHeld => ?_)
          clear hK K
          try simp only [Act.put, List.getElem_toArray, List.getElem_cons_succ, List.getElem_cons_zero, List.setIfInBounds_toArray, List.set_cons_zero, List.set_cons_succ]
          generalize hW2 : World.alloc _ _ = W3 at *
          have H2 : Hid (Below wc.heap.size wc W3) := by unfold Hid; rw [← hW2]; exact bt HC2.out (one_al _ _)
          have HA : Hid (Box W3 w2.heap.size (cpL zCp).toArray) := by unfold Hid; rw [← hW2]; exact Box.new _ _ _ _ rfl
          clear hW2
          refine wpAnyH_ready (rs := [9]) (by kernel_rfl) (by simp) ?_
          refine AllReadyH.cons rfl (fun K hK => ?_) (AllReadyH.nil)
          rw [if_pos (by rfl)]
          have HLE : Hid (wc.heap.size ≤ w2.heap.size) := HC2.out.size
          have HT : Hid (W3.there w2.heap.size 0 7) := Box.there HA.out rfl
          refine wp_store_mid 82 (.tmp 7) (.tmp 65) rfl w2.heap.size 0 (cpL (f.getD zCp)).toArray rfl rfl HT.out Tryz.sizeCopy (cpL_all _) ?_
          refine hK.out _ _ (Below.sets HLE.out _ _ H2.out) (fun hHeld => ?_)
          clear hK K
          try simp only [Act.put, List.getElem_toArray, List.getElem_cons_succ, List.getElem_cons_zero]
          refine wpAnyH_take (i := 10) (v := .bool f.isSome) rfl (by kernel_rfl) (by kernel_rfl) (by kernel_rfl) (fun _ _ _ h => h) (Or.inl ⟨by rfl, fun W hW => by go_simp⟩) hHeld ?_
          try simp only [Act.put, List.getElem_toArray, List.getElem_cons_succ, List.getElem_cons_zero, List.setIfInBounds_toArray, List.set_cons_zero, List.set_cons_succ]
          refine wpAnyH_done (by kernel_rfl) ?_ _
          try simp only [List.getElem_toArray, List.getElem_cons_succ, List.getElem_cons_zero]
          refine NoPanic.normal ?_
          go_wp2
          go_meet
          exact ⟨w2.heap.size, f, rfl, rfl, Below.sets HLE.out _ _ H2.out, Box.full (cs' := (cpL (f.getD zCp)).toArray) HA.out rfl, HLE.out, HF.out⟩
        · go_simp
          refine hK.out _ _ (bt HC1.out (one_al _ _)) (fun hHeld => ?_)
          clear hK K
          try simp only [Act.put, List.getElem_toArray, List.getElem_cons_succ, List.getElem_cons_zero, List.setIfInBounds_toArray, List.set_cons_zero, List.set_cons_succ]
          generalize hW2 : World.alloc _ _ = W2 at *
          have H2 : Hid (Below wc.heap.size wc W2) := by unfold Hid; rw [← hW2]; exact bt HC1.out (one_al _ _)
          have HA : Hid (Box W2 w1.heap.size (cpL zCp).toArray) := by unfold Hid; rw [← hW2]; exact Box.new _ _ _ _ rfl
          have HY1 : Hid (Box W2 wc.heap.size lk.toArray) := by unfold Hid; rw [← hW2]; exact HX1.out.on (one_al _ _)
          have HY2 : Hid (Box W2 (wc.heap.size + 1) #[.func (.func 102) #[] #[]]) := by unfold Hid; rw [← hW2]; exact HX2.out.on (one_al _ _)
          clear hW2
          refine wpAnyH_ready (rs := [4]) (by kernel_rfl) (by simp) ?_
          refine AllReadyH.cons rfl (fun K hK => ?_) (AllReadyH.nil)
          go_simp
          refine (firstLive_any lo m sv cv bv B x n d lk W2 wc.heap.size (wc.heap.size + 1) (fun _ => true) 102 #[] #[] M HM.out HLK.out (HK.out.below (bt HBc.out H2.out)) (HX.out.below (bt HBc.out H2.out)) HV.out HY1.out HY2.out (enters_of Tryz.func102 (by kernel_rfl) rfl) (fun W y _ => stewAny_any W y.1)).mono ?_
          rintro e w3 ⟨f, rfl, hf, hb2⟩
          have HF : Hid (f = fstC B x.im (liveL B x.nm)) := hf.trans (by rw [live_any])
          have HC2 : Hid (Below wc.heap.size wc w3) := bt H2.out hb2
          have HA2 := hide (HA.out.on hb2)
          clear hf hb2
          refine hK.out _ _ HC2.out (fun hHeld => ?_)
          clear hK K
          try simp only [Act.put, List.getElem_toArray, List.getElem_cons_succ, List.getElem_cons_zero, List.setIfInBounds_toArray, List.set_cons_zero, List.set_cons_succ]
          refine wpAnyH_take (i := 5) (v := .tuple #[.agg (cpL (f.getD zCp)).toArray, .bool f.isSome]) rfl (by kernel_rfl) (by kernel_rfl) (by kernel_rfl) (fun _ _ _ h => h) (Or.inl ⟨by rfl, fun W hW => by go_simp⟩) hHeld ?_
          try simp only [Act.put, List.getElem_toArray, List.getElem_cons_succ, List.getElem_cons_zero, List.setIfInBounds_toArray, List.set_cons_zero, List.set_cons_succ]
          refine wpAnyH_take (i := 6) (v := .agg (cpL (f.getD zCp)).toArray) rfl (by kernel_rfl) (by kernel_rfl) (by kernel_rfl) (fun _ _ _ h => h) (Or.inl ⟨by rfl, fun W hW => by go_simp⟩) hHeld ?_
          try simp only [Act.put, List.getElem_toArray, List.getElem_cons_succ, List.getElem_cons_zero, List.setIfInBounds_toArray, List.set_cons_zero, List.set_cons_succ]
          refine wpAnyH_take (i := 7) (v := .bool f.isSome) rfl (by kernel_rfl) (by kernel_rfl) (by kernel_rfl) (fun _ _ _ h => h) (Or.inl ⟨by rfl, fun W hW => by go_simp⟩) hHeld ?_
          try simp only [Act.put, List.getElem_toArray, List.getElem_cons_succ, List.getElem_cons_zero, List.setIfInBounds_toArray, List.set_cons_zero, List.set_cons_succ]
          refine wpAnyH_ready (rs := [9]) (by kernel_rfl) (by simp) ?_
          refine AllReadyH.cons rfl (fun K hK => ?_) (AllReadyH.nil)
          rw [if_pos (by rfl)]
          have HLE : Hid (wc.heap.size ≤ w1.heap.size) := HC1.out.size
          have HT : Hid (w3.there w1.heap.size 0 7) := Box.there HA2.out rfl
          refine wp_store_mid 82 (.tmp 7) (.tmp 65) rfl w1.heap.size 0 (cpL (f.getD zCp)).toArray rfl rfl HT.out Tryz.sizeCopy (cpL_all _) ?_
          refine hK.out _ _ (Below.sets HLE.out _ _ HC2.out) (fun hHeld => ?_)
          clear hK K
          try simp only [Act.put, List.getElem_toArray, List.getElem_cons_succ, List.getElem_cons_zero]
          refine wpAnyH_take (i := 10) (v := .bool f.isSome) rfl (by kernel_rfl) (by kernel_rfl) (by kernel_rfl) (fun _ _ _ h => h) (Or.inl ⟨by rfl, fun W hW => by go_simp⟩) hHeld ?_
          try simp only [Act.put, List.getElem_toArray, List.getElem_cons_succ, List.getElem_cons_zero, List.setIfInBounds_toArray, List.set_cons_zero, List.set_cons_succ]
          refine wpAnyH_done (by kernel_rfl) ?_ _
          try simp only [List.getElem_toArray, List.getElem_cons_succ, List.getElem_cons_zero]
          refine NoPanic.normal ?_
          go_wp2
          go_meet
          exact ⟨w1.heap.size, f, rfl, rfl, Below.sets HLE.out _ _ HC2.out, Box.full (cs' := (cpL (f.getD zCp)).toArray) HA2.out rfl, HLE.out, HF.out⟩
      · go_simp
        refine hK.out _ _ ((one_al _ _).drew) (fun hHeld => ?_)
        clear hK K
        try simp only [Act.put, List.getElem_toArray, List.getElem_cons_succ, List.getElem_cons_zero, List.setIfInBounds_toArray, List.set_cons_zero, List.set_cons_succ]
        generalize hW2 : World.alloc _ _ = W2 at *
        have H2 : Hid (Below wc.heap.size wc W2) := by unfold Hid; rw [← hW2]; exact one_al _ _
        have HA : Hid (Box W2 wc.heap.size (cpL zCp).toArray) := by unfold Hid; rw [← hW2]; exact Box.new _ _ _ _ rfl
        clear hW2
        refine wpAnyH_ready (rs := [1]) (by kernel_rfl) (by simp) ?_
        refine AllReadyH.cons rfl (fun K hK => ?_) (AllReadyH.nil)
        go_simp
        refine (callsIn_wide.1 (liveF_in lk _ 6 102 #[] #[])).mono ?_
        rintro e w1 ⟨rfl, hb1, hx1, hx2, -⟩
        have HC1 : Hid (Below wc.heap.size wc w1) := bt H2.out.drew hb1
        have HX1 : Hid (Box w1 W2.heap.size lk.toArray) := hx1
        have HX2 : Hid (Box w1 (W2.heap.size + 1) #[.func (.func 102) #[] #[]]) := hx2
        have HA1 := hide (HA.out.drew.on hb1)
        clear hb1 hx1 hx2
        refine hK.out _ _ HC1.out (fun hHeld => ?_)
        clear hK K
        try simp only [Act.put, List.getElem_toArray, List.getElem_cons_succ, List.getElem_cons_zero, List.setIfInBounds_toArray, List.set_cons_zero, List.set_cons_succ]
        refine wpAnyH_ready (rs := [4]) (by kernel_rfl) (by simp) ?_
        refine AllReadyH.cons rfl (fun K hK => ?_) (AllReadyH.nil)
        go_simp
        refine (firstLive_any lo m sv cv bv B x n d lk w1 W2.heap.size (W2.heap.size + 1) (fun _ => true) 102 #[] #[] M HM.out HLK.out (HK.out.below (bt HBc.out HC1.out)) (HX.out.below (bt HBc.out HC1.out)) HV.out HX1.out HX2.out (enters_of Tryz.func102 (by kernel_rfl) rfl) (fun W y _ => stewAny_any W y.1)).mono ?_
        rintro e w3 ⟨f, rfl, hf, hb2⟩
        have HF : Hid (f = fstC B x.im (liveL B x.nm)) := hf.trans (by rw [live_any])
        have HC2 : Hid (Below wc.heap.size wc w3) := bt HC1.out hb2
        have HA2 := hide (HA1.out.on hb2)
        clear hf hb2
        refine hK.out _ _ HC2.out (fun hHeld => ?_)
        clear hK K
        try simp only [Act.put, List.getElem_toArray, List.getElem_cons_succ, List.getElem_cons_zero, List.setIfInBounds_toArray, List.set_cons_zero, List.set_cons_succ]
        refine wpAnyH_take (i := 5) (v := .tuple #[.agg (cpL (f.getD zCp)).toArray, .bool f.isSome]) rfl (by kernel_rfl) (by kernel_rfl) (by kernel_rfl) (fun _ _ _ h => h) (Or.inl ⟨by rfl, fun W hW => by go_simp⟩) hHeld ?_
        try simp only [Act.put, List.getElem_toArray, List.getElem_cons_succ, List.getElem_cons_zero, List.setIfInBounds_toArray, List.set_cons_zero, List.set_cons_succ]
        refine wpAnyH_take (i := 6) (v := .agg (cpL (f.getD zCp)).toArray) rfl (by kernel_rfl) (by kernel_rfl) (by kernel_rfl) (fun _ _ _ h => h) (Or.inl ⟨by rfl, fun W hW => by go_simp⟩) hHeld ?_
        try simp only [Act.put, List.getElem_toArray, List.getElem_cons_succ, List.getElem_cons_zero, List.setIfInBounds_toArray, List.set_cons_zero, List.set_cons_succ]
        refine wpAnyH_take (i := 7) (v := .bool f.isSome) rfl (by kernel_rfl) (by kernel_rfl) (by kernel_rfl) (fun _ _ _ h => h) (Or.inl ⟨by rfl, fun W hW => by go_simp⟩) hHeld ?_
        try simp only [Act.put, List.getElem_toArray, List.getElem_cons_succ, List.getElem_cons_zero, List.setIfInBounds_toArray, List.set_cons_zero, List.set_cons_succ]
        refine wpAnyH_ready (rs := [9]) (by kernel_rfl) (by simp) ?_
        refine AllReadyH.cons rfl (fun K hK => ?_) (AllReadyH.nil)
        rw [if_pos (by rfl)]
        have HLE : Hid (wc.heap.size ≤ wc.heap.size) := Nat.le_refl _
        have HT : Hid (w3.there wc.heap.size 0 7) := Box.there HA2.out rfl
        refine wp_store_mid 82 (.tmp 7) (.tmp 65) rfl wc.heap.size 0 (cpL (f.getD zCp)).toArray rfl rfl HT.out Tryz.sizeCopy (cpL_all _) ?_
        refine hK.out _ _ (Below.sets HLE.out _ _ HC2.out) (fun hHeld => ?_)
        clear hK K
        try simp only [Act.put, List.getElem_toArray, List.getElem_cons_succ, List.getElem_cons_zero]
        refine wpAnyH_take (i := 10) (v := .bool f.isSome) rfl (by kernel_rfl) (by kernel_rfl) (by kernel_rfl) (fun _ _ _ h => h) (Or.inl ⟨by rfl, fun W hW => by go_simp⟩) hHeld ?_
        try simp only [Act.put, List.getElem_toArray, List.getElem_cons_succ, List.getElem_cons_zero, List.setIfInBounds_toArray, List.set_cons_zero, List.set_cons_succ]
        refine wpAnyH_done (by kernel_rfl) ?_ _
        try simp only [List.getElem_toArray, List.getElem_cons_succ, List.getElem_cons_zero]
        refine NoPanic.normal ?_
        go_wp2
        go_meet
        exact ⟨wc.heap.size, f, rfl, rfl, Below.sets HLE.out _ _ HC2.out, Box.full (cs' := (cpL (f.getD zCp)).toArray) HA2.out rfl, HLE.out, HF.out⟩
    case rest =>
    revert wc
    intro wd hcut
    obtain ⟨γ, f, rfl, rfl, hbd, hfb, hγ, hf⟩ := hcut
    have FXd := hide (FXc.out.on hbd)
    have FRd := hide (FRc.out.on hbd)
    have HBd := hide (bt HBc.out hbd)
    have HFB := hide hfb
    clear hfb FXc FRc
    cases f with
    | none =>
      exfalso
      have h1 := HPN.out
      rw [HNL.out] at h1
      cases hl : liveL B x.nm with
      | nil => rw [hl] at h1; simp at h1
      | cons c r => rw [hl] at hf; cases hf
    | some c =>
      have hcm := fstC_mem hf.symm
      have h1 := List.mem_filter.1 hcm
      have h2 : mineB x.nm c = true := by
        have := h1.2
        unfold liveB at this
        simp only [Bool.and_eq_true] at this
        exact this.1
      have hse : c.se = x.nm := bytes_eq.1 h2
      have HCM : Hid (c ∈ B.cs) := h1.1
      have HSC : Hid (svF B.ss c.se = some x) := by unfold Hid; rw [hse]; exact HSX.out
      have HE2 : Hid (numI B x = if mayT B c.se c.nu then some (endA x [c]) else none) := by unfold Hid; rw [HE.out, ← hf, hse]
      have HRC : Hid (wd.rangeAt γ 0 [.string c.se, .int .i64 c.nu, .int .i64 c.ve, .int .i64 c.im, .int .i64 c.st, .bool c.en, .string c.be]) := HFB.out.range rfl
      clear hf HE hcm h1 h2 hse
      go_wp2_with (first
        | (refine wpList_load_mid rfl 105 (.tmp 1) rfl w.heap.size 0 rfl lk _ FXd.out.rng Tryz.underlying105 rfl HLK.out.size ?_)
        | (refine wpList_load_mid rfl 82 (.tmp 7) rfl γ 0 rfl [.string c.se, .int .i64 c.nu, .int .i64 c.ve, .int .i64 c.im, .int .i64 c.st, .bool c.en, .string c.be] _ HRC.out Tryz.underlying82 rfl Tryz.sizeCopy ?_))
      refine (lookMay_any lo m sv cv bv B x n d lk c _ HLK.out (HK.out.below HBd.out) HCM.out HSC.out (valid_cps HV.out).1 (valid_cps HV.out).2.2.1 (valid_cps HV.out).2.2.2 HW.out).mono ?_
      rintro e we ⟨rfl, hbe⟩
      have FXe := hide (FXd.out.on hbe)
      have FRe := hide (FRd.out.on hbe)
      have HBe := hide (bt HBd.out hbe)
      have HRE : Hid (we.rangeAt γ 0 [.string c.se, .int .i64 c.nu, .int .i64 c.ve, .int .i64 c.im, .int .i64 c.st, .bool c.en, .string c.be]) := rng_below HRC.out hbe HFB.out.lt
      clear hbe FXd FRd HBd HRC
      cases hm : mayT B c.se c.nu with
      | false =>
        have HE3 : Hid (numI B x = none) := by unfold Hid; rw [HE2.out, hm]; rfl
        go_wp2_with fail
        refine (rest_c _).mono ?_
        rintro e wz ⟨A, a, k, hA, rfl, hrow, hb⟩
        have HA := hide hA
        have HROW := hide hrow
        have FRz := hide (FRe.out.on hb)
        have HBz := hide (bt HBe.out hb)
        have hBR := FRe.out.lt
        obtain ⟨ll, hll⟩ : ∃ ll, ll = acL A (.slice a A.es.length k) := ⟨_, rfl⟩
        rw [← hll]
        have h8 : ll.toArray.size = 8 := by rw [hll]; rfl
        have HS8 : Hid ((Tryz.prog.info? 47).map (·.size) = some ll.length) := by unfold Hid; rw [hll]; exact Tryz.sizeAct
        have HSA : Hid ((Tryz.prog.info? 47).map (·.size) = some ll.toArray.size) := by unfold Hid; rw [hll]; exact Tryz.sizeAct
        have HTH : Hid (wz.there (w.heap.size + 1) 0 ll.toArray.size) := by unfold Hid; rw [h8]; exact FRz.out.there rfl
        have HON : Hid (ll.toArray.all (·.oneCell') = true) := by unfold Hid; rw [hll]; exact acL_one _
        have HLL := hide hll
        clear hll hA hrow hb
        go_wp2_with (refine wpList_store_mid rfl 47 (.tmp 2) (.tmp 72) rfl (w.heap.size + 1) 0 ll.toArray rfl rfl HTH.out HSA.out HON.out ?_; refine Hid.out ?_)
        generalize hW : World.setCells _ _ _ _ = W9
        have FR9 : Hid (Box W9 (w.heap.size + 1) ll.toArray) := by unfold Hid; rw [← hW]; exact FRz.out.full (cs' := ll.toArray) (by rw [h8]; rfl)
        have HB9 : Hid (Below w.heap.size w W9) := by unfold Hid; rw [← hW]; exact Below.sets (by omega) _ _ HBz.out
        have HER : Hid (ERow W9 w.heap.size (.slice a A.es.length k) A.es) := by unfold Hid; rw [← hW]; exact erow_sets HROW.out (by omega) (by omega)
        clear hW
        refine hide ?_
        go_wp2
        refine bodyPost_ret (v := .tuple #[.agg ll.toArray, .bool false]) (res_care (p := 2) (q := 3) (ty := 47) Tryz.results75 _ _ (w.heap.size + 1) ll false _ rfl rfl (FR9.out.range rfl) Tryz.underlying47 rfl HS8.out) rfl ?_
        rw [HE3.out]
        exact ⟨A, a, k, HA.out, (by rw [HLL.out]; try rfl), HER.out, HB9.out⟩
      | true =>
        have HE3 : Hid (numI B x = some (endA x [c])) := by unfold Hid; rw [HE2.out, hm]; rfl
        go_wp2_with (first
          | (refine wpList_load_mid rfl 105 (.tmp 1) rfl w.heap.size 0 rfl lk _ FXe.out.rng Tryz.underlying105 rfl HLK.out.size ?_)
          | (refine wpList_load_mid rfl 82 (.tmp 7) rfl γ 0 rfl [.string c.se, .int .i64 c.nu, .int .i64 c.ve, .int .i64 c.im, .int .i64 c.st, .bool c.en, .string c.be] _ HRE.out Tryz.underlying82 rfl Tryz.sizeCopy ?_))
        generalize hWe : we.alloc _ = We
        have hbf : Below we.heap.size we We := by rw [← hWe]; exact one_al _ _
        have HBL : Hid (CpBl We we.heap.size [c]) := by
          have hb := Box.new we #[.string c.se, .int .i64 c.nu, .int .i64 c.ve, .int .i64 c.im, .int .i64 c.st, .bool c.en, .string c.be] 82 we.heap.size rfl
          rw [hWe] at hb
          refine ⟨hb.lt, fun i hi => ?_⟩
          have e0 : i = 0 := by simp at hi; omega
          subst e0
          exact hb.range rfl
        have FRf := hide (FRe.out.on hbf)
        have HBf := hide (bt HBe.out hbf)
        clear hWe hbf
        refine (end_c m sv cv bv B x n d lk _ _ 1 [c] HLK.out HBL.out (by simp)).mono ?_
        rintro e wz ⟨A, a, k, hA, rfl, hrow, hb⟩
        have HA := hide hA
        have HROW := hide hrow
        have FRz := hide (FRf.out.on hb)
        have HBz := hide (bt HBf.out hb)
        have hBR := FRf.out.lt
        obtain ⟨ll, hll⟩ : ∃ ll, ll = acL A (.slice a A.es.length k) := ⟨_, rfl⟩
        rw [← hll]
        have h8 : ll.toArray.size = 8 := by rw [hll]; rfl
        have HS8 : Hid ((Tryz.prog.info? 47).map (·.size) = some ll.length) := by unfold Hid; rw [hll]; exact Tryz.sizeAct
        have HSA : Hid ((Tryz.prog.info? 47).map (·.size) = some ll.toArray.size) := by unfold Hid; rw [hll]; exact Tryz.sizeAct
        have HTH : Hid (wz.there (w.heap.size + 1) 0 ll.toArray.size) := by unfold Hid; rw [h8]; exact FRz.out.there rfl
        have HON : Hid (ll.toArray.all (·.oneCell') = true) := by unfold Hid; rw [hll]; exact acL_one _
        have HLL := hide hll
        clear hll hA hrow hb
        go_wp2_with (refine wpList_store_mid rfl 47 (.tmp 2) (.tmp 78) rfl (w.heap.size + 1) 0 ll.toArray rfl rfl HTH.out HSA.out HON.out ?_; refine Hid.out ?_)
        generalize hW : World.setCells _ _ _ _ = W9
        have FR9 : Hid (Box W9 (w.heap.size + 1) ll.toArray) := by unfold Hid; rw [← hW]; exact FRz.out.full (cs' := ll.toArray) (by rw [h8]; rfl)
        have HB9 : Hid (Below w.heap.size w W9) := by unfold Hid; rw [← hW]; exact Below.sets (by omega) _ _ HBz.out
        have HER : Hid (ERow W9 w.heap.size (.slice a A.es.length k) A.es) := by unfold Hid; rw [← hW]; exact erow_sets HROW.out (by omega) (by omega)
        clear hW
        refine hide ?_
        go_wp2
        refine bodyPost_ret (v := .tuple #[.agg ll.toArray, .bool true]) (res_care (p := 2) (q := 3) (ty := 47) Tryz.results75 _ _ (w.heap.size + 1) ll true _ rfl rfl (FR9.out.range rfl) Tryz.underlying47 rfl HS8.out) rfl ?_
        rw [HE3.out]
        exact ⟨A, a, k, HA.out, (by rw [HLL.out]; try rfl), HER.out, HB9.out⟩
  have p2 : decide (0 < d) = false := decide_eq_false a2
  by_cases e1 : n.li = x.wa
  · have HE : Hid (numI B x = none) := by unfold Hid; rw [HRP.out, if_neg (by simp), if_neg (by omega), if_pos (by omega)]
    have b1 : (n.li == x.wa) = true := by rw [beq_iff_eq]; exact e1
    clear hli hol' hd' e1
    go_wp2_with fail
    clear c2 c4 c6
    refine (rest_c _).mono ?_
    rintro e wz ⟨A, a, k, hA, rfl, hrow, hb⟩
    have HA := hide hA
    have HROW := hide hrow
    have FRz := hide (FRc.out.on hb)
    have HBz := hide (bt HBc.out hb)
    have hBR := FRc.out.lt
    obtain ⟨ll, hll⟩ : ∃ ll, ll = acL A (.slice a A.es.length k) := ⟨_, rfl⟩
    rw [← hll]
    have h8 : ll.toArray.size = 8 := by rw [hll]; rfl
    have HS8 : Hid ((Tryz.prog.info? 47).map (·.size) = some ll.length) := by unfold Hid; rw [hll]; exact Tryz.sizeAct
    have HSA : Hid ((Tryz.prog.info? 47).map (·.size) = some ll.toArray.size) := by unfold Hid; rw [hll]; exact Tryz.sizeAct
    have HTH : Hid (wz.there (w.heap.size + 1) 0 ll.toArray.size) := by unfold Hid; rw [h8]; exact FRz.out.there rfl
    have HON : Hid (ll.toArray.all (·.oneCell') = true) := by unfold Hid; rw [hll]; exact acL_one _
    have HLL := hide hll
    clear hll hA hrow hb
    go_wp2_with (refine wpList_store_mid rfl 47 (.tmp 2) (.tmp 57) rfl (w.heap.size + 1) 0 ll.toArray rfl rfl HTH.out HSA.out HON.out ?_; refine Hid.out ?_)
    generalize hW : World.setCells _ _ _ _ = W9
    have FR9 : Hid (Box W9 (w.heap.size + 1) ll.toArray) := by unfold Hid; rw [← hW]; exact FRz.out.full (cs' := ll.toArray) (by rw [h8]; rfl)
    have HB9 : Hid (Below w.heap.size w W9) := by unfold Hid; rw [← hW]; exact Below.sets (by omega) _ _ HBz.out
    have HER : Hid (ERow W9 w.heap.size (.slice a A.es.length k) A.es) := by unfold Hid; rw [← hW]; exact erow_sets HROW.out (by omega) (by omega)
    clear hW
    refine hide ?_
    go_wp2
    refine bodyPost_ret (v := .tuple #[.agg ll.toArray, .bool false]) (res_care (p := 2) (q := 3) (ty := 47) Tryz.results75 _ _ (w.heap.size + 1) ll false _ rfl rfl (FR9.out.range rfl) Tryz.underlying47 rfl HS8.out) rfl ?_
    rw [HE.out]
    exact ⟨A, a, k, HA.out, (by rw [HLL.out]; try rfl), HER.out, HB9.out⟩
  have b1 : (n.li == x.wa) = false := by rw [beq_eq_false_iff_ne]; exact e1
  have HE : Hid (numI B x = match fstC B x.im (liveL B x.nm) with
      | some c => if mayT B x.nm c.nu then some (endA x [c]) else none
      | none => none) := by unfold Hid; rw [HRP.out, if_neg (by simp), if_neg (by omega), if_neg (by omega)]
  have HPN : Hid (0 < N) := by unfold Hid; omega
  clear hli hol' hd' e1
  go_wp2_with fail
  clear c2 c4 c6 g20 g23
  have HSK : Hid (∀ W, Below wc.heap.size wc W → W.rangeAt w.heap.size 0 lk) := fun W hW => (FXc.out.on hW).rng
  obtain ⟨M, hM⟩ := cps_subQ HK.out
  have HM := hide hM
  clear hM hbc
  go_cut [7, 8] (fun p v wd => ∃ (γ : Nat) (f : Option Cp), p = .pointer (some ⟨γ, 0, none⟩) ∧ v = .bool f.isSome ∧ Below wc.heap.size wc wd ∧ Box wd γ (cpL (f.getD zCp)).toArray ∧ wc.heap.size ≤ γ ∧ f = fstC B x.im (liveL B x.nm))
  case first =>
    refine Code.wp_mono NoPanic.imp ?_
    refine wp_region_held_drew (S := fun W => Below wc.heap.size wc W) (by kernel_rfl) ((Below.refl _ _).drew) (fun hHeld => ?_)
    refine wpAnyH_take (i := 0) rfl (by kernel_rfl) (by kernel_rfl) (by kernel_rfl) (fun _ _ _ h => h) (yieldsIf_load_mid (by rfl) 105 (.tmp 1) rfl w.heap.size 0 rfl lk _ HSK.out Tryz.underlying105 rfl HLK.out.size) hHeld ?_
    try simp only [Act.put, List.getElem_toArray, List.getElem_cons_zero, List.setIfInBounds_toArray, List.set_cons_zero, List.set_cons_succ]
    refine wpAnyH_take (i := 2) rfl (by kernel_rfl) (by kernel_rfl) (by kernel_rfl) (fun _ _ _ h => h) (yieldsIf_load_mid (by rfl) 105 (.tmp 1) rfl w.heap.size 0 rfl lk _ HSK.out Tryz.underlying105 rfl HLK.out.size) hHeld ?_
    try simp only [Act.put, List.getElem_toArray, List.getElem_cons_succ, List.getElem_cons_zero, List.setIfInBounds_toArray, List.set_cons_zero, List.set_cons_succ]
    refine wpAnyH_take (i := 3) (v := .func (.func 103) #[.agg lk.toArray] #[]) rfl (by kernel_rfl) (by kernel_rfl) (by kernel_rfl) (fun _ _ _ h => h) (Or.inl ⟨by rfl, fun W hW => by go_simp⟩) hHeld ?_
    try simp only [Act.put, List.getElem_toArray, List.getElem_cons_succ, List.getElem_cons_zero, List.setIfInBounds_toArray, List.set_cons_zero, List.set_cons_succ]
    refine wpAnyH_ready (rs := [1, 8]) (by kernel_rfl) (by simp) ?_
    refine AllReadyH.cons rfl (fun K hK => ?_) (AllReadyH.cons rfl (fun K hK => ?_) (AllReadyH.nil))
    · go_simp
      refine (callsIn_wide.1 (liveF_in lk _ 6 102 #[] #[])).mono ?_
      rintro e w1 ⟨rfl, hb1, hx1, hx2, -⟩
      have HC1 : Hid (Below wc.heap.size wc w1) := bt ((Below.refl _ _).drew) hb1
      have HX1 : Hid (Box w1 wc.heap.size lk.toArray) := hx1
      have HX2 : Hid (Box w1 (wc.heap.size + 1) #[.func (.func 102) #[] #[]]) := hx2
      clear hb1 hx1 hx2
      refine hK.out _ _ HC1.out (fun hHeld => ?_)
      clear hK K
      try simp only [Act.put, List.getElem_toArray, List.getElem_cons_succ, List.getElem_cons_zero, List.setIfInBounds_toArray, List.set_cons_zero, List.set_cons_succ]
      refine wpAnyH_ready (rs := [4, 8]) (by kernel_rfl) (by simp) ?_
      refine AllReadyH.cons rfl (fun K hK => ?_) (AllReadyH.cons rfl (fun K hK => ?_) (AllReadyH.nil))
      · go_simp
        refine (firstLive_any lo m sv cv bv B x n d lk w1 wc.heap.size (wc.heap.size + 1) (fun _ => true) 102 #[] #[] M HM.out HLK.out (HK.out.below (bt HBc.out HC1.out)) (HX.out.below (bt HBc.out HC1.out)) HV.out HX1.out HX2.out (enters_of Tryz.func102 (by kernel_rfl) rfl) (fun W y _ => stewAny_any W y.1)).mono ?_
        rintro e w2 ⟨f, rfl, hf, hb2⟩
        have HF : Hid (f = fstC B x.im (liveL B x.nm)) := hf.trans (by rw [live_any])
        have HC2 : Hid (Below wc.heap.size wc w2) := bt HC1.out hb2
        clear hf hb2
        refine hK.out _ _ HC2.out (fun hHeld => ?_)
        clear hK K
        try simp only [Act.put, List.getElem_toArray, List.getElem_cons_succ, List.getElem_cons_zero, List.setIfInBounds_toArray, List.set_cons_zero, List.set_cons_succ]
        refine wpAnyH_take (i := 5) (v := .tuple #[.agg (cpL (f.getD zCp)).toArray, .bool f.isSome]) rfl (by kernel_rfl) (by kernel_rfl) (by kernel_rfl) (fun _ _ _ h => h) (Or.inl ⟨by rfl, fun W hW => by go_simp⟩) hHeld ?_
        try simp only [Act.put, List.getElem_toArray, List.getElem_cons_succ, List.getElem_cons_zero, List.setIfInBounds_toArray, List.set_cons_zero, List.set_cons_succ]
        refine wpAnyH_take (i := 6) (v := .agg (cpL (f.getD zCp)).toArray) rfl (by kernel_rfl) (by kernel_rfl) (by kernel_rfl) (fun _ _ _ h => h) (Or.inl ⟨by rfl, fun W hW => by go_simp⟩) hHeld ?_
        try simp only [Act.put, List.getElem_toArray, List.getElem_cons_succ, List.getElem_cons_zero, List.setIfInBounds_toArray, List.set_cons_zero, List.set_cons_succ]
        refine wpAnyH_take (i := 7) (v := .bool f.isSome) rfl (by kernel_rfl) (by kernel_rfl) (by kernel_rfl) (fun _ _ _ h => h) (Or.inl ⟨by rfl, fun W hW => by go_simp⟩) hHeld ?_
        try simp only [Act.put, List.getElem_toArray, List.getElem_cons_succ, List.getElem_cons_zero, List.setIfInBounds_toArray, List.set_cons_zero, List.set_cons_succ]
        refine wpAnyH_ready (rs := [8]) (by kernel_rfl) (by simp) ?_
        refine AllReadyH.cons rfl (fun K hK => ?_) (AllReadyH.nil)
        go_simp
        refine hK.out _ _ (bt HC2.out (one_al _ _)) (fun hHeld => ?_)
        clear hK K
        try simp only [Act.put, List.getElem_toArray, List.getElem_cons_succ, List.getElem_cons_zero, List.setIfInBounds_toArray, List.set_cons_zero, List.set_cons_succ]
        generalize hW2 : World.alloc _ _ = W3 at *
        have H2 : Hid (Below wc.heap.size wc W3) := by unfold Hid; rw [← hW2]; exact bt HC2.out (one_al _ _)
        have HA : Hid (Box W3 w2.heap.size (cpL zCp).toArray) := by unfold Hid; rw [← hW2]; exact Box.new _ _ _ _ rfl
        clear hW2
        refine wpAnyH_ready (rs := [9]) (by kernel_rfl) (by simp) ?_
        refine AllReadyH.cons rfl (fun K hK => ?_) (AllReadyH.nil)
        rw [if_pos (by rfl)]
        have HLE : Hid (wc.heap.size ≤ w2.heap.size) := HC2.out.size
        have HT : Hid (W3.there w2.heap.size 0 7) := Box.there HA.out rfl
        refine wp_store_mid 82 (.tmp 7) (.tmp 65) rfl w2.heap.size 0 (cpL (f.getD zCp)).toArray rfl rfl HT.out Tryz.sizeCopy (cpL_all _) ?_
        refine hK.out _ _ (Below.sets HLE.out _ _ H2.out) (fun hHeld => ?_)
        clear hK K
        try simp only [Act.put, List.getElem_toArray, List.getElem_cons_succ, List.getElem_cons_zero]
        refine wpAnyH_take (i := 10) (v := .bool f.isSome) rfl (by kernel_rfl) (by kernel_rfl) (by kernel_rfl) (fun _ _ _ h => h) (Or.inl ⟨by rfl, fun W hW => by go_simp⟩) hHeld ?_
        try simp only [Act.put, List.getElem_toArray, List.getElem_cons_succ, List.getElem_cons_zero, List.setIfInBounds_toArray, List.set_cons_zero, List.set_cons_succ]
        refine wpAnyH_done (by kernel_rfl) ?_ _
        try simp only [List.getElem_toArray, List.getElem_cons_succ, List.getElem_cons_zero]
        refine NoPanic.normal ?_
        go_wp2
        go_meet
        exact ⟨w2.heap.size, f, rfl, rfl, Below.sets HLE.out _ _ H2.out, Box.full (cs' := (cpL (f.getD zCp)).toArray) HA.out rfl, HLE.out, HF.out⟩
      · go_simp
        refine hK.out _ _ (bt HC1.out (one_al _ _)) (fun hHeld => ?_)
        clear hK K
        try simp only [Act.put, List.getElem_toArray, List.getElem_cons_succ, List.getElem_cons_zero, List.setIfInBounds_toArray, List.set_cons_zero, List.set_cons_succ]
        generalize hW2 : World.alloc _ _ = W2 at *
        have H2 : Hid (Below wc.heap.size wc W2) := by unfold Hid; rw [← hW2]; exact bt HC1.out (one_al _ _)
        have HA : Hid (Box W2 w1.heap.size (cpL zCp).toArray) := by unfold Hid; rw [← hW2]; exact Box.new _ _ _ _ rfl
        have HY1 : Hid (Box W2 wc.heap.size lk.toArray) := by unfold Hid; rw [← hW2]; exact HX1.out.on (one_al _ _)
        have HY2 : Hid (Box W2 (wc.heap.size + 1) #[.func (.func 102) #[] #[]]) := by unfold Hid; rw [← hW2]; exact HX2.out.on (one_al _ _)
        clear hW2
        refine wpAnyH_ready (rs := [4]) (by kernel_rfl) (by simp) ?_
        refine AllReadyH.cons rfl (fun K hK => ?_) (AllReadyH.nil)
        go_simp
        refine (firstLive_any lo m sv cv bv B x n d lk W2 wc.heap.size (wc.heap.size + 1) (fun _ => true) 102 #[] #[] M HM.out HLK.out (HK.out.below (bt HBc.out H2.out)) (HX.out.below (bt HBc.out H2.out)) HV.out HY1.out HY2.out (enters_of Tryz.func102 (by kernel_rfl) rfl) (fun W y _ => stewAny_any W y.1)).mono ?_
        rintro e w3 ⟨f, rfl, hf, hb2⟩
        have HF : Hid (f = fstC B x.im (liveL B x.nm)) := hf.trans (by rw [live_any])
        have HC2 : Hid (Below wc.heap.size wc w3) := bt H2.out hb2
        have HA2 := hide (HA.out.on hb2)
        clear hf hb2
        refine hK.out _ _ HC2.out (fun hHeld => ?_)
        clear hK K
        try simp only [Act.put, List.getElem_toArray, List.getElem_cons_succ, List.getElem_cons_zero, List.setIfInBounds_toArray, List.set_cons_zero, List.set_cons_succ]
        refine wpAnyH_take (i := 5) (v := .tuple #[.agg (cpL (f.getD zCp)).toArray, .bool f.isSome]) rfl (by kernel_rfl) (by kernel_rfl) (by kernel_rfl) (fun _ _ _ h => h) (Or.inl ⟨by rfl, fun W hW => by go_simp⟩) hHeld ?_
        try simp only [Act.put, List.getElem_toArray, List.getElem_cons_succ, List.getElem_cons_zero, List.setIfInBounds_toArray, List.set_cons_zero, List.set_cons_succ]
        refine wpAnyH_take (i := 6) (v := .agg (cpL (f.getD zCp)).toArray) rfl (by kernel_rfl) (by kernel_rfl) (by kernel_rfl) (fun _ _ _ h => h) (Or.inl ⟨by rfl, fun W hW => by go_simp⟩) hHeld ?_
        try simp only [Act.put, List.getElem_toArray, List.getElem_cons_succ, List.getElem_cons_zero, List.setIfInBounds_toArray, List.set_cons_zero, List.set_cons_succ]
        refine wpAnyH_take (i := 7) (v := .bool f.isSome) rfl (by kernel_rfl) (by kernel_rfl) (by kernel_rfl) (fun _ _ _ h => h) (Or.inl ⟨by rfl, fun W hW => by go_simp⟩) hHeld ?_
        try simp only [Act.put, List.getElem_toArray, List.getElem_cons_succ, List.getElem_cons_zero, List.setIfInBounds_toArray, List.set_cons_zero, List.set_cons_succ]
        refine wpAnyH_ready (rs := [9]) (by kernel_rfl) (by simp) ?_
        refine AllReadyH.cons rfl (fun K hK => ?_) (AllReadyH.nil)
        rw [if_pos (by rfl)]
        have HLE : Hid (wc.heap.size ≤ w1.heap.size) := HC1.out.size
        have HT : Hid (w3.there w1.heap.size 0 7) := Box.there HA2.out rfl
        refine wp_store_mid 82 (.tmp 7) (.tmp 65) rfl w1.heap.size 0 (cpL (f.getD zCp)).toArray rfl rfl HT.out Tryz.sizeCopy (cpL_all _) ?_
        refine hK.out _ _ (Below.sets HLE.out _ _ HC2.out) (fun hHeld => ?_)
        clear hK K
        try simp only [Act.put, List.getElem_toArray, List.getElem_cons_succ, List.getElem_cons_zero]
        refine wpAnyH_take (i := 10) (v := .bool f.isSome) rfl (by kernel_rfl) (by kernel_rfl) (by kernel_rfl) (fun _ _ _ h => h) (Or.inl ⟨by rfl, fun W hW => by go_simp⟩) hHeld ?_
        try simp only [Act.put, List.getElem_toArray, List.getElem_cons_succ, List.getElem_cons_zero, List.setIfInBounds_toArray, List.set_cons_zero, List.set_cons_succ]
        refine wpAnyH_done (by kernel_rfl) ?_ _
        try simp only [List.getElem_toArray, List.getElem_cons_succ, List.getElem_cons_zero]
        refine NoPanic.normal ?_
        go_wp2
        go_meet
        exact ⟨w1.heap.size, f, rfl, rfl, Below.sets HLE.out _ _ HC2.out, Box.full (cs' := (cpL (f.getD zCp)).toArray) HA2.out rfl, HLE.out, HF.out⟩
    · go_simp
      refine hK.out _ _ ((one_al _ _).drew) (fun hHeld => ?_)
      clear hK K
      try simp only [Act.put, List.getElem_toArray, List.getElem_cons_succ, List.getElem_cons_zero, List.setIfInBounds_toArray, List.set_cons_zero, List.set_cons_succ]
      generalize hW2 : World.alloc _ _ = W2 at *
      have H2 : Hid (Below wc.heap.size wc W2) := by unfold Hid; rw [← hW2]; exact one_al _ _
      have HA : Hid (Box W2 wc.heap.size (cpL zCp).toArray) := by unfold Hid; rw [← hW2]; exact Box.new _ _ _ _ rfl
      clear hW2
      refine wpAnyH_ready (rs := [1]) (by kernel_rfl) (by simp) ?_
      refine AllReadyH.cons rfl (fun K hK => ?_) (AllReadyH.nil)
      go_simp
      refine (callsIn_wide.1 (liveF_in lk _ 6 102 #[] #[])).mono ?_
      rintro e w1 ⟨rfl, hb1, hx1, hx2, -⟩
      have HC1 : Hid (Below wc.heap.size wc w1) := bt H2.out.drew hb1
      have HX1 : Hid (Box w1 W2.heap.size lk.toArray) := hx1
      have HX2 : Hid (Box w1 (W2.heap.size + 1) #[.func (.func 102) #[] #[]]) := hx2
      have HA1 := hide (HA.out.drew.on hb1)
      clear hb1 hx1 hx2
      refine hK.out _ _ HC1.out (fun hHeld => ?_)
      clear hK K
      try simp only [Act.put, List.getElem_toArray, List.getElem_cons_succ, List.getElem_cons_zero, List.setIfInBounds_toArray, List.set_cons_zero, List.set_cons_succ]
      refine wpAnyH_ready (rs := [4]) (by kernel_rfl) (by simp) ?_
      refine AllReadyH.cons rfl (fun K hK => ?_) (AllReadyH.nil)
      go_simp
      refine (firstLive_any lo m sv cv bv B x n d lk w1 W2.heap.size (W2.heap.size + 1) (fun _ => true) 102 #[] #[] M HM.out HLK.out (HK.out.below (bt HBc.out HC1.out)) (HX.out.below (bt HBc.out HC1.out)) HV.out HX1.out HX2.out (enters_of Tryz.func102 (by kernel_rfl) rfl) (fun W y _ => stewAny_any W y.1)).mono ?_
      rintro e w3 ⟨f, rfl, hf, hb2⟩
      have HF : Hid (f = fstC B x.im (liveL B x.nm)) := hf.trans (by rw [live_any])
      have HC2 : Hid (Below wc.heap.size wc w3) := bt HC1.out hb2
      have HA2 := hide (HA1.out.on hb2)
      clear hf hb2
      refine hK.out _ _ HC2.out (fun hHeld => ?_)
      clear hK K
      try simp only [Act.put, List.getElem_toArray, List.getElem_cons_succ, List.getElem_cons_zero, List.setIfInBounds_toArray, List.set_cons_zero, List.set_cons_succ]
      refine wpAnyH_take (i := 5) (v := .tuple #[.agg (cpL (f.getD zCp)).toArray, .bool f.isSome]) rfl (by kernel_rfl) (by kernel_rfl) (by kernel_rfl) (fun _ _ _ h => h) (Or.inl ⟨by rfl, fun W hW => by go_simp⟩) hHeld ?_
      try simp only [Act.put, List.getElem_toArray, List.getElem_cons_succ, List.getElem_cons_zero, List.setIfInBounds_toArray, List.set_cons_zero, List.set_cons_succ]
      refine wpAnyH_take (i := 6) (v := .agg (cpL (f.getD zCp)).toArray) rfl (by kernel_rfl) (by kernel_rfl) (by kernel_rfl) (fun _ _ _ h => h) (Or.inl ⟨by rfl, fun W hW => by go_simp⟩) hHeld ?_
      try simp only [Act.put, List.getElem_toArray, List.getElem_cons_succ, List.getElem_cons_zero, List.setIfInBounds_toArray, List.set_cons_zero, List.set_cons_succ]
      refine wpAnyH_take (i := 7) (v := .bool f.isSome) rfl (by kernel_rfl) (by kernel_rfl) (by kernel_rfl) (fun _ _ _ h => h) (Or.inl ⟨by rfl, fun W hW => by go_simp⟩) hHeld ?_
      try simp only [Act.put, List.getElem_toArray, List.getElem_cons_succ, List.getElem_cons_zero, List.setIfInBounds_toArray, List.set_cons_zero, List.set_cons_succ]
      refine wpAnyH_ready (rs := [9]) (by kernel_rfl) (by simp) ?_
      refine AllReadyH.cons rfl (fun K hK => ?_) (AllReadyH.nil)
      rw [if_pos (by rfl)]
      have HLE : Hid (wc.heap.size ≤ wc.heap.size) := Nat.le_refl _
      have HT : Hid (w3.there wc.heap.size 0 7) := Box.there HA2.out rfl
      refine wp_store_mid 82 (.tmp 7) (.tmp 65) rfl wc.heap.size 0 (cpL (f.getD zCp)).toArray rfl rfl HT.out Tryz.sizeCopy (cpL_all _) ?_
      refine hK.out _ _ (Below.sets HLE.out _ _ HC2.out) (fun hHeld => ?_)
      clear hK K
      try simp only [Act.put, List.getElem_toArray, List.getElem_cons_succ, List.getElem_cons_zero]
      refine wpAnyH_take (i := 10) (v := .bool f.isSome) rfl (by kernel_rfl) (by kernel_rfl) (by kernel_rfl) (fun _ _ _ h => h) (Or.inl ⟨by rfl, fun W hW => by go_simp⟩) hHeld ?_
      try simp only [Act.put, List.getElem_toArray, List.getElem_cons_succ, List.getElem_cons_zero, List.setIfInBounds_toArray, List.set_cons_zero, List.set_cons_succ]
      refine wpAnyH_done (by kernel_rfl) ?_ _
      try simp only [List.getElem_toArray, List.getElem_cons_succ, List.getElem_cons_zero]
      refine NoPanic.normal ?_
      go_wp2
      go_meet
      exact ⟨wc.heap.size, f, rfl, rfl, Below.sets HLE.out _ _ HC2.out, Box.full (cs' := (cpL (f.getD zCp)).toArray) HA2.out rfl, HLE.out, HF.out⟩
  case rest =>
  revert wc
  intro wd hcut
  obtain ⟨γ, f, rfl, rfl, hbd, hfb, hγ, hf⟩ := hcut
  have FXd := hide (FXc.out.on hbd)
  have FRd := hide (FRc.out.on hbd)
  have HBd := hide (bt HBc.out hbd)
  have HFB := hide hfb
  clear hfb FXc FRc
  cases f with
  | none =>
    exfalso
    have h1 := HPN.out
    rw [HNL.out] at h1
    cases hl : liveL B x.nm with
    | nil => rw [hl] at h1; simp at h1
    | cons c r => rw [hl] at hf; cases hf
  | some c =>
    have hcm := fstC_mem hf.symm
    have h1 := List.mem_filter.1 hcm
    have h2 : mineB x.nm c = true := by
      have := h1.2
      unfold liveB at this
      simp only [Bool.and_eq_true] at this
      exact this.1
    have hse : c.se = x.nm := bytes_eq.1 h2
    have HCM : Hid (c ∈ B.cs) := h1.1
    have HSC : Hid (svF B.ss c.se = some x) := by unfold Hid; rw [hse]; exact HSX.out
    have HE2 : Hid (numI B x = if mayT B c.se c.nu then some (endA x [c]) else none) := by unfold Hid; rw [HE.out, ← hf, hse]
    have HRC : Hid (wd.rangeAt γ 0 [.string c.se, .int .i64 c.nu, .int .i64 c.ve, .int .i64 c.im, .int .i64 c.st, .bool c.en, .string c.be]) := HFB.out.range rfl
    clear hf HE hcm h1 h2 hse
    go_wp2_with (first
      | (refine wpList_load_mid rfl 105 (.tmp 1) rfl w.heap.size 0 rfl lk _ FXd.out.rng Tryz.underlying105 rfl HLK.out.size ?_)
      | (refine wpList_load_mid rfl 82 (.tmp 7) rfl γ 0 rfl [.string c.se, .int .i64 c.nu, .int .i64 c.ve, .int .i64 c.im, .int .i64 c.st, .bool c.en, .string c.be] _ HRC.out Tryz.underlying82 rfl Tryz.sizeCopy ?_))
    refine (lookMay_any lo m sv cv bv B x n d lk c _ HLK.out (HK.out.below HBd.out) HCM.out HSC.out (valid_cps HV.out).1 (valid_cps HV.out).2.2.1 (valid_cps HV.out).2.2.2 HW.out).mono ?_
    rintro e we ⟨rfl, hbe⟩
    have FXe := hide (FXd.out.on hbe)
    have FRe := hide (FRd.out.on hbe)
    have HBe := hide (bt HBd.out hbe)
    have HRE : Hid (we.rangeAt γ 0 [.string c.se, .int .i64 c.nu, .int .i64 c.ve, .int .i64 c.im, .int .i64 c.st, .bool c.en, .string c.be]) := rng_below HRC.out hbe HFB.out.lt
    clear hbe FXd FRd HBd HRC
    cases hm : mayT B c.se c.nu with
    | false =>
      have HE3 : Hid (numI B x = none) := by unfold Hid; rw [HE2.out, hm]; rfl
      go_wp2_with fail
      refine (rest_c _).mono ?_
      rintro e wz ⟨A, a, k, hA, rfl, hrow, hb⟩
      have HA := hide hA
      have HROW := hide hrow
      have FRz := hide (FRe.out.on hb)
      have HBz := hide (bt HBe.out hb)
      have hBR := FRe.out.lt
      obtain ⟨ll, hll⟩ : ∃ ll, ll = acL A (.slice a A.es.length k) := ⟨_, rfl⟩
      rw [← hll]
      have h8 : ll.toArray.size = 8 := by rw [hll]; rfl
      have HS8 : Hid ((Tryz.prog.info? 47).map (·.size) = some ll.length) := by unfold Hid; rw [hll]; exact Tryz.sizeAct
      have HSA : Hid ((Tryz.prog.info? 47).map (·.size) = some ll.toArray.size) := by unfold Hid; rw [hll]; exact Tryz.sizeAct
      have HTH : Hid (wz.there (w.heap.size + 1) 0 ll.toArray.size) := by unfold Hid; rw [h8]; exact FRz.out.there rfl
      have HON : Hid (ll.toArray.all (·.oneCell') = true) := by unfold Hid; rw [hll]; exact acL_one _
      have HLL := hide hll
      clear hll hA hrow hb
      go_wp2_with (refine wpList_store_mid rfl 47 (.tmp 2) (.tmp 72) rfl (w.heap.size + 1) 0 ll.toArray rfl rfl HTH.out HSA.out HON.out ?_; refine Hid.out ?_)
      generalize hW : World.setCells _ _ _ _ = W9
      have FR9 : Hid (Box W9 (w.heap.size + 1) ll.toArray) := by unfold Hid; rw [← hW]; exact FRz.out.full (cs' := ll.toArray) (by rw [h8]; rfl)
      have HB9 : Hid (Below w.heap.size w W9) := by unfold Hid; rw [← hW]; exact Below.sets (by omega) _ _ HBz.out
      have HER : Hid (ERow W9 w.heap.size (.slice a A.es.length k) A.es) := by unfold Hid; rw [← hW]; exact erow_sets HROW.out (by omega) (by omega)
      clear hW
      refine hide ?_
      go_wp2
      refine bodyPost_ret (v := .tuple #[.agg ll.toArray, .bool false]) (res_care (p := 2) (q := 3) (ty := 47) Tryz.results75 _ _ (w.heap.size + 1) ll false _ rfl rfl (FR9.out.range rfl) Tryz.underlying47 rfl HS8.out) rfl ?_
      rw [HE3.out]
      exact ⟨A, a, k, HA.out, (by rw [HLL.out]; try rfl), HER.out, HB9.out⟩
    | true =>
      have HE3 : Hid (numI B x = some (endA x [c])) := by unfold Hid; rw [HE2.out, hm]; rfl
      go_wp2_with (first
        | (refine wpList_load_mid rfl 105 (.tmp 1) rfl w.heap.size 0 rfl lk _ FXe.out.rng Tryz.underlying105 rfl HLK.out.size ?_)
        | (refine wpList_load_mid rfl 82 (.tmp 7) rfl γ 0 rfl [.string c.se, .int .i64 c.nu, .int .i64 c.ve, .int .i64 c.im, .int .i64 c.st, .bool c.en, .string c.be] _ HRE.out Tryz.underlying82 rfl Tryz.sizeCopy ?_))
      generalize hWe : we.alloc _ = We
      have hbf : Below we.heap.size we We := by rw [← hWe]; exact one_al _ _
      have HBL : Hid (CpBl We we.heap.size [c]) := by
        have hb := Box.new we #[.string c.se, .int .i64 c.nu, .int .i64 c.ve, .int .i64 c.im, .int .i64 c.st, .bool c.en, .string c.be] 82 we.heap.size rfl
        rw [hWe] at hb
        refine ⟨hb.lt, fun i hi => ?_⟩
        have e0 : i = 0 := by simp at hi; omega
        subst e0
        exact hb.range rfl
      have FRf := hide (FRe.out.on hbf)
      have HBf := hide (bt HBe.out hbf)
      clear hWe hbf
      refine (end_c m sv cv bv B x n d lk _ _ 1 [c] HLK.out HBL.out (by simp)).mono ?_
      rintro e wz ⟨A, a, k, hA, rfl, hrow, hb⟩
      have HA := hide hA
      have HROW := hide hrow
      have FRz := hide (FRf.out.on hb)
      have HBz := hide (bt HBf.out hb)
      have hBR := FRf.out.lt
      obtain ⟨ll, hll⟩ : ∃ ll, ll = acL A (.slice a A.es.length k) := ⟨_, rfl⟩
      rw [← hll]
      have h8 : ll.toArray.size = 8 := by rw [hll]; rfl
      have HS8 : Hid ((Tryz.prog.info? 47).map (·.size) = some ll.length) := by unfold Hid; rw [hll]; exact Tryz.sizeAct
      have HSA : Hid ((Tryz.prog.info? 47).map (·.size) = some ll.toArray.size) := by unfold Hid; rw [hll]; exact Tryz.sizeAct
      have HTH : Hid (wz.there (w.heap.size + 1) 0 ll.toArray.size) := by unfold Hid; rw [h8]; exact FRz.out.there rfl
      have HON : Hid (ll.toArray.all (·.oneCell') = true) := by unfold Hid; rw [hll]; exact acL_one _
      have HLL := hide hll
      clear hll hA hrow hb
      go_wp2_with (refine wpList_store_mid rfl 47 (.tmp 2) (.tmp 78) rfl (w.heap.size + 1) 0 ll.toArray rfl rfl HTH.out HSA.out HON.out ?_; refine Hid.out ?_)
      generalize hW : World.setCells _ _ _ _ = W9
      have FR9 : Hid (Box W9 (w.heap.size + 1) ll.toArray) := by unfold Hid; rw [← hW]; exact FRz.out.full (cs' := ll.toArray) (by rw [h8]; rfl)
      have HB9 : Hid (Below w.heap.size w W9) := by unfold Hid; rw [← hW]; exact Below.sets (by omega) _ _ HBz.out
      have HER : Hid (ERow W9 w.heap.size (.slice a A.es.length k) A.es) := by unfold Hid; rw [← hW]; exact erow_sets HROW.out (by omega) (by omega)
      clear hW
      refine hide ?_
      go_wp2
      refine bodyPost_ret (v := .tuple #[.agg ll.toArray, .bool true]) (res_care (p := 2) (q := 3) (ty := 47) Tryz.results75 _ _ (w.heap.size + 1) ll true _ rfl rfl (FR9.out.range rfl) Tryz.underlying47 rfl HS8.out) rfl ?_
      rw [HE3.out]
      exact ⟨A, a, k, HA.out, (by rw [HLL.out]; try rfl), HER.out, HB9.out⟩
end
end Go.Proofs.YtpdlcccnlciecaaGreat
