import Derived.Test.YtpdlcccnlciecaaGreatV28
namespace Go.Proofs.YtpdlcccnlciecaaGreat
open Go.RowKit Go.Deep

set_option maxRecDepth 100000 in
set_option maxHeartbeats 16000000 in
theorem l16Replace_any (lo base : Nat) (sv cv bv lv : Value) (B : Sb) (x : Sv) (P : List Nat) (w : World) (h : SbAt lo w sv cv bv B) (hv : MayOk B) (hl : B.cs.length ≤ 200) (hw : 0 ≤ x.wa ∧ x.wa ≤ 10) (ho : 0 ≤ x.ov ∧ x.ov ≤ 10) (hp : IRow w base lv P) (hP : ∀ i ∈ P, i < B.cs.length) (hpl : P.length ≤ 200) :
    Calls Tryz.prog 47 #[.agg #[.int .i64 B.now, sv, cv, bv], .agg #[.string x.nm, .int .i64 x.ve, .bool x.gn, .int .i64 x.im, .int .i64 x.wa, .int .i64 x.dn, .int .i64 x.ov, .int .i64 x.nx, .int .i64 x.pr, .int .i64 x.ls, .int .i64 x.ms, .int .i64 x.ld, .int .i64 x.cl], .agg (acL (ac0 x) (.slice none 0 0)).toArray, lv] w fun e w' => ∃ ev, e = .returned (.agg (acL (repF B x (getP B.cs P)) ev).toArray) ∧ Below w.heap.size w w' ∧ ERow w' w.heap.size ev (repF B x (getP B.cs P)).es := by
  have HK := hide h
  have HV := hide hv
  have HP := hide hp
  have HM := hide hP
  have HPL := hide (getP_all hP)
  obtain ⟨a0, k0, rfl⟩ := h.svs.form
  obtain ⟨a1, k1, rfl⟩ := h.cps.form
  obtain ⟨a2, k2, rfl⟩ := h.bes.form
  obtain ⟨a3, k3, rfl⟩ := hp.form
  clear h hv hp hP
  dsimp only [acL, ac0]
  go_enter Tryz.func47, Tryz.ntmps47
  go_wp2_with fail
  generalize hWa : World.alloc (World.alloc (World.alloc (w.alloc _) _) _) _ = Wa
  have HB : Hid (Below w.heap.size w Wa) := by unfold Hid; rw [← hWa]; exact (((one_al w _).alloc (by simp) _).alloc (by simp; omega) _).alloc (by simp; omega) _
  have F1 : Hid (Box Wa w.heap.size #[.int .i64 B.now, .slice a0 B.ss.length k0, .slice a1 B.cs.length k1, .slice a2 B.bs.length k2]) := by unfold Hid; rw [← hWa]; exact (((Box.new _ _ _ _ rfl).on (one_al _ _)).on (one_al _ _)).on (one_al _ _)
  have FS : Hid (Box Wa (w.heap.size + 1) #[.string x.nm, .int .i64 x.ve, .bool x.gn, .int .i64 x.im, .int .i64 x.wa, .int .i64 x.dn, .int .i64 x.ov, .int .i64 x.nx, .int .i64 x.pr, .int .i64 x.ls, .int .i64 x.ms, .int .i64 x.ld, .int .i64 x.cl]) := by unfold Hid; rw [← hWa]; exact ((Box.new _ _ _ _ (by simp)).on (one_al _ _)).on (one_al _ _)
  have FA : Hid (Box Wa (w.heap.size + 1 + 1) (acL (ac0 x) (.slice none 0 0)).toArray) := by unfold Hid; rw [← hWa]; exact (Box.new _ _ _ _ (by simp)).on (one_al _ _)
  have FR : Hid (Box Wa (w.heap.size + 1 + 1 + 1) zAct.toArray) := by unfold Hid; rw [← hWa]; exact Box.new _ _ _ _ (by simp)
  have hsz : w.heap.size + 4 ≤ Wa.heap.size := by rw [← hWa]; simp
  clear hWa
  refine (l16Live_any lo _ _ _ B x.nm _ (HK.out.below HB.out) (by omega)).mono ?_
  rintro e w1 ⟨v, rfl, hb1, hrow⟩
  replace HB := hide (bt HB.out hb1)
  replace F1 := hide (F1.out.on hb1)
  replace FS := hide (FS.out.on hb1)
  replace FA := hide (FA.out.on hb1)
  replace FR := hide (FR.out.on hb1)
  have hz1 := hb1.size
  obtain ⟨n, hnn⟩ : ∃ n, n = (liveL B x.nm).length := ⟨_, rfl⟩
  obtain ⟨a9, k9, e9⟩ := hrow.form
  rw [live_n, ← hnn] at e9
  subst e9
  have hn2 : n ≤ 200 := by rw [hnn]; exact live_le hl x.nm
  have HREP : Hid (repF B x (getP B.cs P) = if P.length = 0 ∨ (n : Int) < x.wa then ac0 x else if (n : Int) < x.wa + x.ov then { ac0 x with cr := 1 } else { ac0 x with es := fstE B x.im (mayL B (getP B.cs P)) }) := by
    unfold Hid repF
    rw [HPL.out, ← hnn]
  have HROW := hide ((HP.out.below HB.out))
  clear hb1 hrow hnn
  have s4 := FS.out.cell 4
  have s6 := FS.out.cell 6
  simp at s4 s6
  have vv : IntKind.i64.wrap (x.wa + x.ov) = x.wa + x.ov := by rw [IntWalk.i64_left]; unfold wrap64; omega
  by_cases hp0 : P.length = 0
  · have hz : ((P.length : Int) == 0) = true := by simp [hp0]
    have HE : Hid (repF B x (getP B.cs P) = ac0 x) := by unfold Hid; rw [HREP.out, if_pos (Or.inl hp0)]
    clear hp0
    have HRA := hide (FA.out.range (l := acL (ac0 x) (.slice none 0 0)) rfl)
    have HTH : Hid (_ : Prop) := FR.out.there (n := 8) rfl
    go_wp2_with (first
      | (refine wpList_load_mid rfl 47 (.tmp 6) rfl (w.heap.size + 1 + 1) 0 rfl (acL (ac0 x) (.slice none 0 0)) _ HRA.out Tryz.underlying47 rfl Tryz.sizeAct ?_)
      | (refine wpList_store_mid rfl 47 (.tmp 8) (.tmp 24) rfl (w.heap.size + 1 + 1 + 1) 0 (acL (ac0 x) (.slice none 0 0)).toArray rfl rfl HTH.out Tryz.sizeAct (acL_one _) ?_; refine Hid.out ?_))
    generalize hW : World.setCells _ _ _ _ = W9
    have FR9 : Hid (Box W9 (w.heap.size + 1 + 1 + 1) (acL (ac0 x) (.slice none 0 0)).toArray) := by unfold Hid; rw [← hW]; exact FR.out.full (cs' := (acL (ac0 x) (.slice none 0 0)).toArray) rfl
    have HB9 : Hid (Below w.heap.size w W9) := by unfold Hid; rw [← hW]; exact Below.sets (by omega) _ _ HB.out
    have HER : Hid (ERow W9 w.heap.size (.slice none 0 0) []) := ⟨rfl, Or.inl ⟨rfl, rfl⟩⟩
    clear hW
    refine hide ?_
    go_wp2
    refine bodyPost_ret (v := .agg (acL (ac0 x) (.slice none 0 0)).toArray) (res_act rfl _ _ (w.heap.size + 1 + 1 + 1) 0 (acL (ac0 x) (.slice none 0 0)) _ rfl (FR9.out.range rfl) Tryz.underlying47 rfl Tryz.sizeAct) rfl ⟨(.slice none 0 0), by rw [HE.out]; rfl, HB9.out, by rw [HE.out]; exact HER.out⟩
  · have hz : ((P.length : Int) == 0) = false := by rw [beq_eq_false_iff_ne]; omega
    by_cases hn : (n : Int) < x.wa
    · have HE : Hid (repF B x (getP B.cs P) = ac0 x) := by unfold Hid; rw [HREP.out, if_pos (Or.inr hn)]
      clear hp0
      have HRA := hide (FA.out.range (l := acL (ac0 x) (.slice none 0 0)) rfl)
      have HTH : Hid (_ : Prop) := FR.out.there (n := 8) rfl
      go_wp2_with (first
        | (refine wpList_load_mid rfl 47 (.tmp 6) rfl (w.heap.size + 1 + 1) 0 rfl (acL (ac0 x) (.slice none 0 0)) _ HRA.out Tryz.underlying47 rfl Tryz.sizeAct ?_)
        | (refine wpList_store_mid rfl 47 (.tmp 8) (.tmp 24) rfl (w.heap.size + 1 + 1 + 1) 0 (acL (ac0 x) (.slice none 0 0)).toArray rfl rfl HTH.out Tryz.sizeAct (acL_one _) ?_; refine Hid.out ?_))
      generalize hW : World.setCells _ _ _ _ = W9
      have FR9 : Hid (Box W9 (w.heap.size + 1 + 1 + 1) (acL (ac0 x) (.slice none 0 0)).toArray) := by unfold Hid; rw [← hW]; exact FR.out.full (cs' := (acL (ac0 x) (.slice none 0 0)).toArray) rfl
      have HB9 : Hid (Below w.heap.size w W9) := by unfold Hid; rw [← hW]; exact Below.sets (by omega) _ _ HB.out
      have HER : Hid (ERow W9 w.heap.size (.slice none 0 0) []) := ⟨rfl, Or.inl ⟨rfl, rfl⟩⟩
      clear hW
      refine hide ?_
      go_wp2
      refine bodyPost_ret (v := .agg (acL (ac0 x) (.slice none 0 0)).toArray) (res_act rfl _ _ (w.heap.size + 1 + 1 + 1) 0 (acL (ac0 x) (.slice none 0 0)) _ rfl (FR9.out.range rfl) Tryz.underlying47 rfl Tryz.sizeAct) rfl ⟨(.slice none 0 0), by rw [HE.out]; rfl, HB9.out, by rw [HE.out]; exact HER.out⟩
    · by_cases hn3 : (n : Int) < x.wa + x.ov
      · have HE : Hid (repF B x (getP B.cs P) = { ac0 x with cr := 1 }) := by unfold Hid; rw [HREP.out, if_neg (by omega), if_pos hn3]
        clear hp0
        have a2' := FA.out.cell 2
        have af := FA.out.free 2
        simp [acL, ac0] at a2'
        have FA2 := hide (FA.out.set (k := 2) (.int .i64 1) (by simp [acL]))
        have FR2 := hide (FR.out.setFar (p := ⟨w.heap.size + 1 + 1, 2, none⟩) (by simp only []; omega) (.int .i64 1))
        have HB2 := hide (HB.out.setCell (p := ⟨w.heap.size + 1 + 1, 2, none⟩) (by simp only []; omega) (.int .i64 1))
        have HRA := hide (FA2.out.range (l := acL { ac0 x with cr := 1 } (.slice none 0 0)) rfl)
        have HTH : Hid ((w1.setCell ⟨w.heap.size + 1 + 1, 2, none⟩ (.int .i64 1)).there (w.heap.size + 1 + 1 + 1) 0 8) := FR2.out.there rfl
        go_wp2_with (first
          | (refine wpList_load_mid rfl 47 (.tmp 6) rfl (w.heap.size + 1 + 1) 0 rfl (acL { ac0 x with cr := 1 } (.slice none 0 0)) _ HRA.out Tryz.underlying47 rfl Tryz.sizeAct ?_)
          | (refine wpList_store_mid rfl 47 (.tmp 8) (.tmp 33) rfl (w.heap.size + 1 + 1 + 1) 0 (acL { ac0 x with cr := 1 } (.slice none 0 0)).toArray rfl rfl HTH.out Tryz.sizeAct (acL_one _) ?_; refine Hid.out ?_))
        generalize hW : World.setCells _ _ _ _ = W9
        have FR9 : Hid (Box W9 (w.heap.size + 1 + 1 + 1) (acL { ac0 x with cr := 1 } (.slice none 0 0)).toArray) := by unfold Hid; rw [← hW]; exact FR2.out.full (cs' := (acL { ac0 x with cr := 1 } (.slice none 0 0)).toArray) rfl
        have HB9 : Hid (Below w.heap.size w W9) := by unfold Hid; rw [← hW]; exact Below.sets (by omega) _ _ HB2.out
        have HER : Hid (ERow W9 w.heap.size (.slice none 0 0) []) := ⟨rfl, Or.inl ⟨rfl, rfl⟩⟩
        clear hW
        refine hide ?_
        go_wp2
        refine bodyPost_ret (v := .agg (acL { ac0 x with cr := 1 } (.slice none 0 0)).toArray) (res_act rfl _ _ (w.heap.size + 1 + 1 + 1) 0 (acL { ac0 x with cr := 1 } (.slice none 0 0)) _ rfl (FR9.out.range rfl) Tryz.underlying47 rfl Tryz.sizeAct) rfl ⟨(.slice none 0 0), by rw [HE.out]; rfl, HB9.out, by rw [HE.out]; exact HER.out⟩
      · have HE : Hid (repF B x (getP B.cs P) = { ac0 x with es := fstE B x.im (mayL B (getP B.cs P)) }) := by unfold Hid; rw [HREP.out, if_neg (by omega), if_neg hn3]
        clear hp0
        have HSB : Hid (∀ W, Below w1.heap.size w1 W → W.rangeAt w.heap.size 0 [.int .i64 B.now, .slice a0 B.ss.length k0, .slice a1 B.cs.length k1, .slice a2 B.bs.length k2]) := fun W hW => (F1.out.on hW).range rfl
        have HSS : Hid (∀ W, Below w1.heap.size w1 W → W.rangeAt (w.heap.size + 1) 0 [.string x.nm, .int .i64 x.ve, .bool x.gn, .int .i64 x.im, .int .i64 x.wa, .int .i64 x.dn, .int .i64 x.ov, .int .i64 x.nx, .int .i64 x.pr, .int .i64 x.ls, .int .i64 x.ms, .int .i64 x.ld, .int .i64 x.cl]) := fun W hW => (FS.out.on hW).range rfl
        go_wp2
        refine Code.wp_mono NoPanic.imp ?_
        refine wp_region_E (S := fun W => Below w1.heap.size w1 W) 7 (by kernel_rfl) ((Below.refl _ _).drew) (fun hHeld => ?_)
        refine wpAnyE_take [5, 6, 7] (i := 0) rfl (by kernel_rfl) (by kernel_rfl) (by kernel_rfl) (by kernel_rfl) (fun _ _ _ h => h) (yieldsIf_load_mid (by rfl) 34 (.tmp 4) rfl w.heap.size 0 rfl [.int .i64 B.now, .slice a0 B.ss.length k0, .slice a1 B.cs.length k1, .slice a2 B.bs.length k2] _ HSB.out Tryz.underlying34 rfl (by kernel_rfl)) hHeld ?_
        try simp only [Act.put, List.getElem_toArray, List.getElem_cons_zero, List.setIfInBounds_toArray, List.set_cons_zero, List.set_cons_succ]
        refine wpAnyE_take [5, 6, 7] (i := 1) rfl (by kernel_rfl) (by kernel_rfl) (by kernel_rfl) (by kernel_rfl) (fun _ _ _ h => h) (yieldsIf_load_mid (by rfl) 50 (.tmp 5) rfl (w.heap.size + 1) 0 rfl [.string x.nm, .int .i64 x.ve, .bool x.gn, .int .i64 x.im, .int .i64 x.wa, .int .i64 x.dn, .int .i64 x.ov, .int .i64 x.nx, .int .i64 x.pr, .int .i64 x.ls, .int .i64 x.ms, .int .i64 x.ld, .int .i64 x.cl] _ HSS.out Tryz.underlying50 rfl (by kernel_rfl)) hHeld ?_
        try simp only [Act.put, List.getElem_toArray, List.getElem_cons_succ, List.getElem_cons_zero, List.setIfInBounds_toArray, List.set_cons_zero, List.set_cons_succ]
        refine wpAnyE_take [4, 5, 6, 7] (i := 2) rfl (by kernel_rfl) (by kernel_rfl) (by kernel_rfl) (by kernel_rfl) (fun _ _ _ h => h) (yieldsIf_load_mid (by rfl) 34 (.tmp 4) rfl w.heap.size 0 rfl [.int .i64 B.now, .slice a0 B.ss.length k0, .slice a1 B.cs.length k1, .slice a2 B.bs.length k2] _ HSB.out Tryz.underlying34 rfl (by kernel_rfl)) hHeld ?_
        try simp only [Act.put, List.getElem_toArray, List.getElem_cons_succ, List.getElem_cons_zero, List.setIfInBounds_toArray, List.set_cons_zero, List.set_cons_succ]
        refine wpAnyE_take [4, 5, 6, 7] (i := 3) (v := .slice a3 P.length k3) rfl (by kernel_rfl) (by kernel_rfl) (by kernel_rfl) (by kernel_rfl) (fun _ _ _ h => h) (Or.inl ⟨by rfl, fun W hW => by go_simp⟩) hHeld ?_
        try simp only [Act.put, List.getElem_toArray, List.getElem_cons_succ, List.getElem_cons_zero, List.setIfInBounds_toArray, List.set_cons_zero, List.set_cons_succ]
        refine wpAnyE_one (i := 4) (by kernel_rfl) rfl (fun K0 hK => ?_)
        go_simp
        refine (l16May_any lo base _ _ _ _ B P _ (HK.out.below (bt HB.out ((Below.refl _ _).drew))) HV.out (HROW.out.below ((Below.refl _ _).drew)) HM.out (by omega)).mono ?_
        rintro e w5 ⟨v5, rfl, hb5, hr5⟩
        have HB5 : Hid (Below w1.heap.size w1 w5) := bt ((Below.refl _ _).drew) hb5
        have HR5 := hide hr5
        clear hHeld hb5 hr5
        refine hK.out _ _ (fun _ => HB5.out) (fun hHx => ?_)
        have hHeld := hHx (by decide)
        clear hK K0 hHx
        try simp only [Act.put, List.getElem_toArray, List.getElem_cons_succ, List.getElem_cons_zero, List.setIfInBounds_toArray, List.set_cons_zero, List.set_cons_succ]
        refine wpAnyE_one (i := 5) (by kernel_rfl) rfl (fun K0 hK => ?_)
        go_simp
        refine (l16First_any lo _ _ _ _ _ B x (mayP B P) _ (HK.out.below (bt HB.out HB5.out)) HR5.out (fun i hi => HM.out i (mayP_mem hi)) (by have := mayP_len B P; omega)).mono ?_
        rintro e w6 ⟨ev, rfl, hb6, her⟩
        rw [getP_may] at her
        have HB6 : Hid (Below w1.heap.size w1 w6) := bt HB5.out hb6
        have HER6 := hide her
        have hz6 := hb6.size
        have hz5 := HB5.out.size
        clear hHeld hb6 her
        refine hK.out _ _ (fun _ => HB6.out) (fun hHx => ?_)
        have hHeld := hHx (by decide)
        clear hK K0 hHx
        try simp only [Act.put, List.getElem_toArray, List.getElem_cons_succ, List.getElem_cons_zero, List.setIfInBounds_toArray, List.set_cons_zero, List.set_cons_succ]
        refine wpAnyE_take [7] (i := 6) (v := .pointer (some ⟨w.heap.size + 1 + 1, 6, none⟩)) rfl (by kernel_rfl) (by kernel_rfl) (by kernel_rfl) (by kernel_rfl) (fun _ _ _ h => h) (Or.inl ⟨by rfl, fun W hW => by go_simp⟩) hHeld ?_
        try simp only [Act.put, List.getElem_toArray, List.getElem_cons_succ, List.getElem_cons_zero, List.setIfInBounds_toArray, List.set_cons_zero, List.set_cons_succ]
        refine wpAnyE_one (i := 7) (by kernel_rfl) rfl (fun K0 hK => ?_)
        obtain ⟨ea, ek, eeq⟩ := HER6.out.form
        obtain ⟨en, hen⟩ : ∃ n, n = (fstE B x.im (mayL B (getP B.cs P))).length := ⟨_, rfl⟩
        rw [← hen] at eeq
        subst eeq
        clear hen
        have FA6 := hide (FA.out.on HB6.out)
        have FR6 := hide (FR.out.on HB6.out)
        have a6 := FA6.out.cell 6
        have af := FA6.out.free 6
        simp [acL, ac0] at a6
        go_simp
        refine hK.out _ _ (fun h => absurd rfl h) (fun _ => ?_)
        clear hK K0 hHeld a6 af
        try simp only [Act.put, List.getElem_toArray, List.getElem_cons_succ, List.getElem_cons_zero, List.setIfInBounds_toArray, List.set_cons_zero, List.set_cons_succ]
        refine wpAnyE_done (by kernel_rfl) ?_ _
        try simp only [List.getElem_toArray, List.getElem_cons_succ, List.getElem_cons_zero]
        refine NoPanic.normal ?_
        have FA7 := hide (FA6.out.set (k := 6) (.slice ea en ek) (by simp [acL]))
        have FR7 := hide (FR6.out.setFar (p := ⟨w.heap.size + 1 + 1, 6, none⟩) (by simp only []; omega) (.slice ea en ek))
        have HB7 := hide ((bt HB.out HB6.out).setCell (p := ⟨w.heap.size + 1 + 1, 6, none⟩) (by simp only []; omega) (.slice ea en ek))
        have HRA := hide (FA7.out.range (l := acL { ac0 x with es := fstE B x.im (mayL B (getP B.cs P)) } (.slice ea en ek)) rfl)
        have HTH : Hid ((w6.setCell ⟨w.heap.size + 1 + 1, 6, none⟩ (.slice ea en ek)).there (w.heap.size + 1 + 1 + 1) 0 8) := FR7.out.there rfl
        go_wp2_with (first
          | (refine wpList_load_mid rfl 47 (.tmp 6) rfl (w.heap.size + 1 + 1) 0 rfl (acL { ac0 x with es := fstE B x.im (mayL B (getP B.cs P)) } (.slice ea en ek)) _ HRA.out Tryz.underlying47 rfl Tryz.sizeAct ?_)
          | (refine wpList_store_mid rfl 47 (.tmp 8) (.tmp 41) rfl (w.heap.size + 1 + 1 + 1) 0 (acL { ac0 x with es := fstE B x.im (mayL B (getP B.cs P)) } (.slice ea en ek)).toArray rfl rfl HTH.out Tryz.sizeAct (acL_one _) ?_; refine Hid.out ?_))
        generalize hW : World.setCells _ _ _ _ = W9
        have FR9 : Hid (Box W9 (w.heap.size + 1 + 1 + 1) (acL { ac0 x with es := fstE B x.im (mayL B (getP B.cs P)) } (.slice ea en ek)).toArray) := by unfold Hid; rw [← hW]; exact FR7.out.full (cs' := (acL { ac0 x with es := fstE B x.im (mayL B (getP B.cs P)) } (.slice ea en ek)).toArray) rfl
        have HB9 : Hid (Below w.heap.size w W9) := by unfold Hid; rw [← hW]; exact Below.sets (by omega) _ _ HB7.out
        have HER : Hid (ERow W9 w.heap.size (.slice ea en ek) (fstE B x.im (mayL B (getP B.cs P)))) := by
          unfold Hid
          rw [← hW]
          refine ERow.low (base := w5.heap.size) ?_ (by omega)
          obtain ⟨h1, h2 | ⟨g, cap, cur, h3, h4, h5, h6⟩⟩ := HER6.out
          · exact ⟨h1, Or.inl h2⟩
          · refine ⟨h1, Or.inr ⟨g, cap, cur, h3, h4, ?_, h6⟩⟩
            have hgz := (Array.getElem?_eq_some_iff.1 h5).1
            rw [World.heap_setCells_other _ _ _ _ (by simpa [World.setCell] using hgz) (by omega), Below.heap_setCell _ _ _ _ (by simp only []; omega)]
            exact h5
        clear hW
        refine hide ?_
        go_wp2
        refine bodyPost_ret (v := .agg (acL { ac0 x with es := fstE B x.im (mayL B (getP B.cs P)) } (.slice ea en ek)).toArray) (res_act rfl _ _ (w.heap.size + 1 + 1 + 1) 0 (acL { ac0 x with es := fstE B x.im (mayL B (getP B.cs P)) } (.slice ea en ek)) _ rfl (FR9.out.range rfl) Tryz.underlying47 rfl Tryz.sizeAct) rfl ⟨(.slice ea en ek), by rw [HE.out]; rfl, HB9.out, by rw [HE.out]; exact HER.out⟩
end Go.Proofs.YtpdlcccnlciecaaGreat
