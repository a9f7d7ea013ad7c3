import Derived.Test.YtpdlcccnlciecaaGreatV52
namespace Go.Proofs.YtpdlcccnlciecaaGreat
open Go.RowKit Go.Deep

theorem live_get (B : Sb) (s : ByteArray) : getP B.cs (plc (liveB s) B.cs B.cs.length) = liveL B s := by
  rw [getP_plc _ _ _ (Nat.le_refl _), List.take_length]
  rfl
theorem some_fail (B : Sb) (x : Sv) : (liveL B x.nm).filter (someQ B x 3) = failL B x := rfl
theorem some_2 (B : Sb) (x : Sv) : (liveL B x.nm).filter (someQ B x 2) = oldL B x := rfl
theorem some_6 (B : Sb) (x : Sv) : (liveL B x.nm).filter (someQ B x 6) = drL B x := rfl
theorem plc_ln (p : Cp → Bool) (L : List Cp) : (plc p L L.length).length ≤ L.length := by
  unfold plc
  exact Nat.le_trans (List.length_filter_le _ _) (by simp)

theorem svB_wa' {now : Int} {x : Sv} (h : svB now x = true) : 0 ≤ x.wa ∧ x.wa ≤ 10 := (svB_wd h).1
theorem svB_per' {now : Int} {x : Sv} (h : svB now x = true) : 0 ≤ x.pr ∧ x.pr ≤ 1000000 ∧ 0 ≤ x.ld ∧ x.ld ≤ 1000000 ∧ x.ls ≤ x.ms ∧ 0 ≤ x.cl ∧ x.cl ≤ 3 := by
  unfold svB at h
  simp only [Bool.and_eq_true] at h
  have := h.2.2.2.2.2.2.2.2
  unfold perB at this
  split at this
  · rename_i h0
    have h0 := beq_iff_eq.1 h0
    simp only [Bool.and_eq_true, beq_iff_eq] at this
    omega
  · unfold inB at this
    simp only [Bool.and_eq_true, decide_eq_true_iff] at this
    omega
theorem svB_ov' {now : Int} {x : Sv} (h : svB now x = true) : 0 ≤ x.ov ∧ x.ov ≤ 10 := by
  unfold svB at h
  simp only [Bool.and_eq_true] at h
  have := h.2.2.2.2.2.2.1
  unfold inB at this
  simp only [decide_eq_true_iff] at this
  exact this

set_option maxRecDepth 100000 in
set_option maxHeartbeats 16000000 in
theorem l16Act_any (lo : Nat) (sv cv bv : Value) (B : Sb) (x : Sv) (kind : Int) (w : World) (h : SbAt lo w sv cv bv B) (hv : MayOk B) (hl : B.cs.length ≤ 200) (hmem : x ∈ B.ss) (hsv : svB B.now x = true) :
    Calls Tryz.prog 17 #[.int .i64 kind, .agg #[.int .i64 B.now, sv, cv, bv], .agg #[.string x.nm, .int .i64 x.ve, .bool x.gn, .int .i64 x.im, .int .i64 x.wa, .int .i64 x.dn, .int .i64 x.ov, .int .i64 x.nx, .int .i64 x.pr, .int .i64 x.ls, .int .i64 x.ms, .int .i64 x.ld, .int .i64 x.cl]] w fun e w' => ∃ ev, e = .returned (.agg (acL (askS kind B x) ev).toArray) ∧ Below w.heap.size w w' ∧ ERow w' w.heap.size ev (askS kind B x).es := by
  have HK := hide h
  have HV := hide hv
  have HMEM := hide hmem
  have HSV := hide hsv
  have hpl := plc_ln (liveB x.nm) B.cs
  have hp3 := someP_len B x 3 (plc (liveB x.nm) B.cs B.cs.length)
  obtain ⟨a0, k0, rfl⟩ := h.svs.form
  obtain ⟨a1, k1, rfl⟩ := h.cps.form
  obtain ⟨a2, k2, rfl⟩ := h.bes.form
  clear h hv hmem hsv
  go_enter Tryz.func17, Tryz.ntmps17
  by_cases h3 : kind = 3
  · subst h3
    have HE : Hid (askS 3 B x = { ac0 x with es := (failL B x).map enOf }) := rfl
    go_wp2_with fail
    generalize hWa : World.alloc (World.alloc (World.alloc (w.alloc _) _) _) _ = Wa
    have HB : Hid (Below w.heap.size w Wa) := by unfold Hid; rw [← hWa]; exact (((one_al w _).alloc (by simp) _).alloc (by simp; omega) _).alloc (by simp; omega) _
    have F1 : Hid (Box Wa w.heap.size #[.int .i64 B.now, .slice a0 B.ss.length k0, .slice a1 B.cs.length k1, .slice a2 B.bs.length k2]) := by unfold Hid; rw [← hWa]; exact (((Box.new _ _ _ _ rfl).on (one_al _ _)).on (one_al _ _)).on (one_al _ _)
    have FS : Hid (Box Wa (w.heap.size + 1) #[.string x.nm, .int .i64 x.ve, .bool x.gn, .int .i64 x.im, .int .i64 x.wa, .int .i64 x.dn, .int .i64 x.ov, .int .i64 x.nx, .int .i64 x.pr, .int .i64 x.ls, .int .i64 x.ms, .int .i64 x.ld, .int .i64 x.cl]) := by unfold Hid; rw [← hWa]; exact ((Box.new _ _ _ _ (by simp)).on (one_al _ _)).on (one_al _ _)
    have FR : Hid (Box Wa (w.heap.size + 1 + 1) zAct.toArray) := by unfold Hid; rw [← hWa]; exact (Box.new _ _ _ _ (by simp)).on (one_al _ _)
    have FA : Hid (Box Wa (w.heap.size + 1 + 1 + 1) (acL (ac0 x) (.slice none 0 0)).toArray) := by unfold Hid; rw [← hWa]; exact Box.new _ _ _ _ (by simp)
    have hsz : w.heap.size + 4 ≤ Wa.heap.size := by rw [← hWa]; simp
    clear hWa
    have HSB : Hid (∀ W, Below Wa.heap.size Wa W → W.rangeAt w.heap.size 0 [.int .i64 B.now, .slice a0 B.ss.length k0, .slice a1 B.cs.length k1, .slice a2 B.bs.length k2]) := fun W hW => (F1.out.on hW).range rfl
    have HSS : Hid (∀ W, Below Wa.heap.size Wa W → W.rangeAt (w.heap.size + 1) 0 [.string x.nm, .int .i64 x.ve, .bool x.gn, .int .i64 x.im, .int .i64 x.wa, .int .i64 x.dn, .int .i64 x.ov, .int .i64 x.nx, .int .i64 x.pr, .int .i64 x.ls, .int .i64 x.ms, .int .i64 x.ld, .int .i64 x.cl]) := fun W hW => (FS.out.on hW).range rfl
    have HSA : Hid (∀ W, Below Wa.heap.size Wa W → W.rangeAt (w.heap.size + 1 + 1 + 1) 0 (acL (ac0 x) (.slice none 0 0))) := fun W hW => (FA.out.on hW).range rfl
    refine Code.wp_mono NoPanic.imp ?_
    refine wp_region_E (S := fun W => Below Wa.heap.size Wa W) 7 (by kernel_rfl) ((Below.refl _ _).drew) (fun hHeld => ?_)
    refine wpAnyE_take [5, 6, 7] (i := 0) rfl (by kernel_rfl) (by kernel_rfl) (by kernel_rfl) (by kernel_rfl) (fun _ _ _ h => h) (yieldsIf_load_mid (by rfl) 34 (.tmp 4) rfl w.heap.size 0 rfl [.int .i64 B.now, .slice a0 B.ss.length k0, .slice a1 B.cs.length k1, .slice a2 B.bs.length k2] _ HSB.out Tryz.underlying34 rfl (by kernel_rfl)) hHeld ?_
    try simp only [Act.put, List.getElem_toArray, List.getElem_cons_zero, List.setIfInBounds_toArray, List.set_cons_zero, List.set_cons_succ]
    refine wpAnyE_take [4, 5, 6, 7] (i := 1) rfl (by kernel_rfl) (by kernel_rfl) (by kernel_rfl) (by kernel_rfl) (fun _ _ _ h => h) (yieldsIf_load_mid (by rfl) 34 (.tmp 4) rfl w.heap.size 0 rfl [.int .i64 B.now, .slice a0 B.ss.length k0, .slice a1 B.cs.length k1, .slice a2 B.bs.length k2] _ HSB.out Tryz.underlying34 rfl (by kernel_rfl)) hHeld ?_
    try simp only [Act.put, List.getElem_toArray, List.getElem_cons_succ, List.getElem_cons_zero, List.setIfInBounds_toArray, List.set_cons_zero, List.set_cons_succ]
    refine wpAnyE_take [4, 5, 6, 7] (i := 2) rfl (by kernel_rfl) (by kernel_rfl) (by kernel_rfl) (by kernel_rfl) (fun _ _ _ h => h) (yieldsIf_load_mid (by rfl) 50 (.tmp 5) rfl (w.heap.size + 1) 0 rfl [.string x.nm, .int .i64 x.ve, .bool x.gn, .int .i64 x.im, .int .i64 x.wa, .int .i64 x.dn, .int .i64 x.ov, .int .i64 x.nx, .int .i64 x.pr, .int .i64 x.ls, .int .i64 x.ms, .int .i64 x.ld, .int .i64 x.cl] _ HSS.out Tryz.underlying50 rfl (by kernel_rfl)) hHeld ?_
    try simp only [Act.put, List.getElem_toArray, List.getElem_cons_succ, List.getElem_cons_zero, List.setIfInBounds_toArray, List.set_cons_zero, List.set_cons_succ]
    refine wpAnyE_take [4, 5, 6, 7] (i := 3) (v := .int .i64 3) rfl (by kernel_rfl) (by kernel_rfl) (by kernel_rfl) (by kernel_rfl) (fun _ _ _ h => h) (Or.inl ⟨by rfl, fun W hW => by go_simp⟩) hHeld ?_
    try simp only [Act.put, List.getElem_toArray, List.getElem_cons_succ, List.getElem_cons_zero, List.setIfInBounds_toArray, List.set_cons_zero, List.set_cons_succ]
    refine wpAnyE_one (i := 4) (by kernel_rfl) rfl (fun K0 hK => ?_)
    go_simp
    refine (l16Some_any lo _ _ _ B x 3 (Or.inr (Or.inr rfl)) _ (HK.out.below (bt HB.out ((Below.refl _ _).drew))) hl).mono ?_
    rintro e w5 ⟨v5, rfl, hb5, hr5⟩
    have HB5 : Hid (Below Wa.heap.size Wa w5) := bt ((Below.refl _ _).drew) hb5
    have HR5 := hide hr5
    clear hHeld hb5 hr5
    refine hK.out _ _ (fun _ => HB5.out) (fun hHx => ?_)
    have hHeld := hHx (by decide)
    clear hK K0 hHx
    try simp only [Act.put, List.getElem_toArray, List.getElem_cons_succ, List.getElem_cons_zero, List.setIfInBounds_toArray, List.set_cons_zero, List.set_cons_succ]
    refine wpAnyE_one (i := 5) (by kernel_rfl) rfl (fun K0 hK => ?_)
    go_simp
    refine (l16Ends_any lo _ _ _ _ _ B (someP B x 3 (plc (liveB x.nm) B.cs B.cs.length)) _ (HK.out.below (bt HB.out HB5.out)) HR5.out (fun i hi => plc_lt (List.mem_filter.1 hi).1) (by omega)).mono ?_
    rintro e w6 ⟨ev, rfl, hb6, her⟩
    rw [getP_some, live_get, some_fail] at her
    have HB6 : Hid (Below Wa.heap.size Wa w6) := bt HB5.out hb6
    have HER6 := hide her
    have hz6 := hb6.size
    have hz5 := HB5.out.size
    clear hHeld hb6 her
    refine hK.out _ _ (fun _ => HB6.out) (fun hHx => ?_)
    have hHeld := hHx (by decide)
    clear hK K0 hHx
    try simp only [Act.put, List.getElem_toArray, List.getElem_cons_succ, List.getElem_cons_zero, List.setIfInBounds_toArray, List.set_cons_zero, List.set_cons_succ]
    refine wpAnyE_take [7] (i := 6) (v := .pointer (some ⟨w.heap.size + 1 + 1 + 1, 6, none⟩)) rfl (by kernel_rfl) (by kernel_rfl) (by kernel_rfl) (by kernel_rfl) (fun _ _ _ h => h) (Or.inl ⟨by rfl, fun W hW => by go_simp⟩) hHeld ?_
    try simp only [Act.put, List.getElem_toArray, List.getElem_cons_succ, List.getElem_cons_zero, List.setIfInBounds_toArray, List.set_cons_zero, List.set_cons_succ]
    refine wpAnyE_one (i := 7) (by kernel_rfl) rfl (fun K0 hK => ?_)
    obtain ⟨ea, ek, eeq⟩ := HER6.out.form
    obtain ⟨en, hen⟩ : ∃ n, n = ((failL B x).map enOf).length := ⟨_, rfl⟩
    rw [← hen] at eeq
    subst eeq
    have HEN := hide hen
    clear hen
    have FA6 := hide (FA.out.on HB6.out)
    have FR6 := hide (FR.out.on HB6.out)
    have a6 := FA6.out.cell 6
    have af := FA6.out.free 6
    simp [acL, ac0] at a6
    go_simp
    refine hK.out _ _ (fun h => absurd rfl h) (fun _ => ?_)
    clear hK K0 hHeld a6 af
    try simp only [Act.put, List.getElem_toArray, List.getElem_cons_succ, List.getElem_cons_zero, List.setIfInBounds_toArray, List.set_cons_zero, List.set_cons_succ]
    refine wpAnyE_done (by kernel_rfl) ?_ _
    try simp only [List.getElem_toArray, List.getElem_cons_succ, List.getElem_cons_zero]
    refine NoPanic.normal ?_
    have FA7 := hide (FA6.out.set (k := 6) (.slice ea en ek) (by simp [acL]))
    have FR7 := hide (FR6.out.setFar (p := ⟨w.heap.size + 1 + 1 + 1, 6, none⟩) (by simp only []; omega) (.slice ea en ek))
    have HB7 := hide ((bt HB.out HB6.out).setCell (p := ⟨w.heap.size + 1 + 1 + 1, 6, none⟩) (by simp only []; omega) (.slice ea en ek))
    have HRA := hide (FA7.out.range (l := acL { ac0 x with es := (failL B x).map enOf } (.slice ea en ek)) rfl)
    have HTH : Hid ((w6.setCell ⟨w.heap.size + 1 + 1 + 1, 6, none⟩ (.slice ea en ek)).there (w.heap.size + 1 + 1) 0 8) := FR7.out.there rfl
    go_wp2_with (first
      | (refine wpList_load_mid rfl 47 (.tmp 7) rfl (w.heap.size + 1 + 1 + 1) 0 rfl (acL { ac0 x with es := (failL B x).map enOf } (.slice ea en ek)) _ HRA.out Tryz.underlying47 rfl Tryz.sizeAct ?_)
      | (refine wpList_store_mid rfl 47 (.tmp 6) (.tmp 23) rfl (w.heap.size + 1 + 1) 0 (acL { ac0 x with es := (failL B x).map enOf } (.slice ea en ek)).toArray rfl rfl HTH.out Tryz.sizeAct (acL_one _) ?_; refine Hid.out ?_))
    generalize hW : World.setCells _ _ _ _ = W9
    have FR9 : Hid (Box W9 (w.heap.size + 1 + 1) (acL { ac0 x with es := (failL B x).map enOf } (.slice ea en ek)).toArray) := by unfold Hid; rw [← hW]; exact FR7.out.full (cs' := (acL { ac0 x with es := (failL B x).map enOf } (.slice ea en ek)).toArray) rfl
    have HB9 : Hid (Below w.heap.size w W9) := by unfold Hid; rw [← hW]; exact Below.sets (by omega) _ _ HB7.out
    have HER : Hid (ERow W9 w.heap.size (.slice ea en ek) ((failL B x).map enOf)) := by
      unfold Hid
      rw [← hW]
      refine ERow.low (base := w5.heap.size) ?_ (by omega)
      obtain ⟨h1, h2 | ⟨g, cap, cur, h3, h4, h5, h6⟩⟩ := HER6.out
      · exact ⟨h1, Or.inl h2⟩
      · refine ⟨h1, Or.inr ⟨g, cap, cur, h3, h4, ?_, h6⟩⟩
        have hgz := (Array.getElem?_eq_some_iff.1 h5).1
        rw [World.heap_setCells_other _ _ _ _ (by simpa [World.setCell] using hgz) (by omega), Below.heap_setCell _ _ _ _ (by simp only []; omega)]
        exact h5
    clear hW
    refine hide ?_
    go_wp2
    refine bodyPost_ret (v := .agg (acL { ac0 x with es := (failL B x).map enOf } (.slice ea en ek)).toArray) (res_act rfl _ _ (w.heap.size + 1 + 1) 0 (acL { ac0 x with es := (failL B x).map enOf } (.slice ea en ek)) _ rfl (FR9.out.range rfl) Tryz.underlying47 rfl Tryz.sizeAct) rfl ⟨(.slice ea en ek), (by rw [HE.out]; try rfl), HB9.out, by rw [HE.out]; exact HER.out⟩
  · have hk3 : (kind == 3) = false := by simpa using h3
    cases hg : x.gn with
    | true =>
      by_cases h5 : kind = 5
      · subst h5
        have HE : Hid (askS 5 B x = { ac0 x with es := (liveL B x.nm).map enOf, dp := decide ((ctL B.cs x.nm x.im).li + (ctL B.cs x.nm x.im).en = 0) }) := by unfold Hid askS; rw [if_neg h3, hg]; rfl
        clear h3
        go_wp2_with fail
        generalize hWa : World.alloc (World.alloc (World.alloc (w.alloc _) _) _) _ = Wa
        have HB : Hid (Below w.heap.size w Wa) := by unfold Hid; rw [← hWa]; exact (((one_al w _).alloc (by simp) _).alloc (by simp; omega) _).alloc (by simp; omega) _
        have F1 : Hid (Box Wa w.heap.size #[.int .i64 B.now, .slice a0 B.ss.length k0, .slice a1 B.cs.length k1, .slice a2 B.bs.length k2]) := by unfold Hid; rw [← hWa]; exact (((Box.new _ _ _ _ rfl).on (one_al _ _)).on (one_al _ _)).on (one_al _ _)
        have FS : Hid (Box Wa (w.heap.size + 1) #[.string x.nm, .int .i64 x.ve, .bool true, .int .i64 x.im, .int .i64 x.wa, .int .i64 x.dn, .int .i64 x.ov, .int .i64 x.nx, .int .i64 x.pr, .int .i64 x.ls, .int .i64 x.ms, .int .i64 x.ld, .int .i64 x.cl]) := by unfold Hid; rw [← hWa]; exact ((Box.new _ _ _ _ (by simp)).on (one_al _ _)).on (one_al _ _)
        have FR : Hid (Box Wa (w.heap.size + 1 + 1) zAct.toArray) := by unfold Hid; rw [← hWa]; exact (Box.new _ _ _ _ (by simp)).on (one_al _ _)
        have FA : Hid (Box Wa (w.heap.size + 1 + 1 + 1) (acL (ac0 x) (.slice none 0 0)).toArray) := by unfold Hid; rw [← hWa]; exact Box.new _ _ _ _ (by simp)
        have hsz : w.heap.size + 4 ≤ Wa.heap.size := by rw [← hWa]; simp
        clear hWa
        have HSB : Hid (∀ W, Below Wa.heap.size Wa W → W.rangeAt w.heap.size 0 [.int .i64 B.now, .slice a0 B.ss.length k0, .slice a1 B.cs.length k1, .slice a2 B.bs.length k2]) := fun W hW => (F1.out.on hW).range rfl
        have HSS : Hid (∀ W, Below Wa.heap.size Wa W → W.rangeAt (w.heap.size + 1) 0 [.string x.nm, .int .i64 x.ve, .bool true, .int .i64 x.im, .int .i64 x.wa, .int .i64 x.dn, .int .i64 x.ov, .int .i64 x.nx, .int .i64 x.pr, .int .i64 x.ls, .int .i64 x.ms, .int .i64 x.ld, .int .i64 x.cl]) := fun W hW => (FS.out.on hW).range rfl
        have HSA : Hid (∀ W, Below Wa.heap.size Wa W → W.rangeAt (w.heap.size + 1 + 1 + 1) 0 (acL (ac0 x) (.slice none 0 0))) := fun W hW => (FA.out.on hW).range rfl
        refine Code.wp_mono NoPanic.imp ?_
        refine wp_region_E (S := fun W => Below Wa.heap.size Wa W) 7 (by kernel_rfl) ((Below.refl _ _).drew) (fun hHeld => ?_)
        refine wpAnyE_take [5, 6, 7] (i := 0) rfl (by kernel_rfl) (by kernel_rfl) (by kernel_rfl) (by kernel_rfl) (fun _ _ _ h => h) (yieldsIf_load_mid (by rfl) 34 (.tmp 4) rfl w.heap.size 0 rfl [.int .i64 B.now, .slice a0 B.ss.length k0, .slice a1 B.cs.length k1, .slice a2 B.bs.length k2] _ HSB.out Tryz.underlying34 rfl (by kernel_rfl)) hHeld ?_
        try simp only [Act.put, List.getElem_toArray, List.getElem_cons_zero, List.setIfInBounds_toArray, List.set_cons_zero, List.set_cons_succ]
        refine wpAnyE_take [4, 5, 6, 7] (i := 1) rfl (by kernel_rfl) (by kernel_rfl) (by kernel_rfl) (by kernel_rfl) (fun _ _ _ h => h) (yieldsIf_load_mid (by rfl) 34 (.tmp 4) rfl w.heap.size 0 rfl [.int .i64 B.now, .slice a0 B.ss.length k0, .slice a1 B.cs.length k1, .slice a2 B.bs.length k2] _ HSB.out Tryz.underlying34 rfl (by kernel_rfl)) hHeld ?_
        try simp only [Act.put, List.getElem_toArray, List.getElem_cons_succ, List.getElem_cons_zero, List.setIfInBounds_toArray, List.set_cons_zero, List.set_cons_succ]
        refine wpAnyE_take [3, 4, 5, 6, 7] (i := 2) (v := .pointer (some ⟨w.heap.size + 1, 0, none⟩)) rfl (by kernel_rfl) (by kernel_rfl) (by kernel_rfl) (by kernel_rfl) (fun _ _ _ h => h) (Or.inl ⟨by rfl, fun W hW => by go_simp⟩) hHeld ?_
        try simp only [Act.put, List.getElem_toArray, List.getElem_cons_succ, List.getElem_cons_zero, List.setIfInBounds_toArray, List.set_cons_zero, List.set_cons_succ]
        refine wpAnyE_take [4, 5, 6, 7] (i := 3) (v := .string x.nm) rfl (by kernel_rfl) (by kernel_rfl) (by kernel_rfl) (by kernel_rfl) (fun _ _ _ h => h) (Or.inl ⟨by rfl, fun W hW => by have hf := (FS.out.on hW).cell 0; simp at hf; go_simp⟩) hHeld ?_
        try simp only [Act.put, List.getElem_toArray, List.getElem_cons_succ, List.getElem_cons_zero, List.setIfInBounds_toArray, List.set_cons_zero, List.set_cons_succ]
        refine wpAnyE_one (i := 4) (by kernel_rfl) rfl (fun K0 hK => ?_)
        go_simp
        refine (l16Live_any lo _ _ _ B x.nm _ (HK.out.below (bt HB.out ((Below.refl _ _).drew))) (by omega)).mono ?_
        rintro e w5 ⟨v5, rfl, hb5, hr5⟩
        have HB5 : Hid (Below Wa.heap.size Wa w5) := bt ((Below.refl _ _).drew) hb5
        have HR5 := hide hr5
        clear hHeld hb5 hr5
        refine hK.out _ _ (fun _ => HB5.out) (fun hHx => ?_)
        have hHeld := hHx (by decide)
        clear hK K0 hHx
        try simp only [Act.put, List.getElem_toArray, List.getElem_cons_succ, List.getElem_cons_zero, List.setIfInBounds_toArray, List.set_cons_zero, List.set_cons_succ]
        refine wpAnyE_one (i := 5) (by kernel_rfl) rfl (fun K0 hK => ?_)
        go_simp
        refine (l16Ends_any lo _ _ _ _ _ B (plc (liveB x.nm) B.cs B.cs.length) _ (HK.out.below (bt HB.out HB5.out)) HR5.out (fun i hi => plc_lt hi) (by omega)).mono ?_
        rintro e w6 ⟨ev, rfl, hb6, her⟩
        rw [live_get] at her
        have HB6 : Hid (Below Wa.heap.size Wa w6) := bt HB5.out hb6
        have HER6 := hide her
        have hz6 := hb6.size
        have hz5 := HB5.out.size
        clear hHeld hb6 her
        refine hK.out _ _ (fun _ => HB6.out) (fun hHx => ?_)
        have hHeld := hHx (by decide)
        clear hK K0 hHx
        try simp only [Act.put, List.getElem_toArray, List.getElem_cons_succ, List.getElem_cons_zero, List.setIfInBounds_toArray, List.set_cons_zero, List.set_cons_succ]
        refine wpAnyE_take [7] (i := 6) (v := .pointer (some ⟨w.heap.size + 1 + 1 + 1, 6, none⟩)) rfl (by kernel_rfl) (by kernel_rfl) (by kernel_rfl) (by kernel_rfl) (fun _ _ _ h => h) (Or.inl ⟨by rfl, fun W hW => by go_simp⟩) hHeld ?_
        try simp only [Act.put, List.getElem_toArray, List.getElem_cons_succ, List.getElem_cons_zero, List.setIfInBounds_toArray, List.set_cons_zero, List.set_cons_succ]
        refine wpAnyE_one (i := 7) (by kernel_rfl) rfl (fun K0 hK => ?_)
        obtain ⟨ea, ek, eeq⟩ := HER6.out.form
        obtain ⟨en, hen⟩ : ∃ n, n = ((liveL B x.nm).map enOf).length := ⟨_, rfl⟩
        rw [← hen] at eeq
        subst eeq
        have HEN := hide hen
        clear hen
        have FA6 := hide (FA.out.on HB6.out)
        have FR6 := hide (FR.out.on HB6.out)
        have a6 := FA6.out.cell 6
        have af := FA6.out.free 6
        simp [acL, ac0] at a6
        go_simp
        refine hK.out _ _ (fun h => absurd rfl h) (fun _ => ?_)
        clear hK K0 hHeld a6 af
        try simp only [Act.put, List.getElem_toArray, List.getElem_cons_succ, List.getElem_cons_zero, List.setIfInBounds_toArray, List.set_cons_zero, List.set_cons_succ]
        refine wpAnyE_done (by kernel_rfl) ?_ _
        try simp only [List.getElem_toArray, List.getElem_cons_succ, List.getElem_cons_zero]
        refine NoPanic.normal ?_
        have FA7 := hide (FA6.out.set (k := 6) (.slice ea en ek) (by simp [acL]))
        have FR7 := hide (FR6.out.setFar (p := ⟨w.heap.size + 1 + 1 + 1, 6, none⟩) (by simp only []; omega) (.slice ea en ek))
        have HB7 := hide ((bt HB.out HB6.out).setCell (p := ⟨w.heap.size + 1 + 1 + 1, 6, none⟩) (by simp only []; omega) (.slice ea en ek))
        have F17 := hide ((F1.out.on HB6.out).setFar (p := ⟨w.heap.size + 1 + 1 + 1, 6, none⟩) (by simp only []; omega) (.slice ea en ek))
        have FS7 := hide ((FS.out.on HB6.out).setFar (p := ⟨w.heap.size + 1 + 1 + 1, 6, none⟩) (by simp only []; omega) (.slice ea en ek))
        have HER7 : Hid (ERow (w6.setCell ⟨w.heap.size + 1 + 1 + 1, 6, none⟩ (.slice ea en ek)) w5.heap.size (.slice ea en ek) ((liveL B x.nm).map enOf)) := by
          unfold Hid
          obtain ⟨h1, h2 | ⟨g, cap, cur, h3, h4, h5, h6⟩⟩ := HER6.out
          · exact ⟨h1, Or.inl h2⟩
          · exact ⟨h1, Or.inr ⟨g, cap, cur, h3, h4, (Below.heap_setCell _ _ _ _ (by simp only []; omega)).trans h5, h6⟩⟩
        have hz7 : (w6.setCell ⟨w.heap.size + 1 + 1 + 1, 6, none⟩ (.slice ea en ek)).heap.size = w6.heap.size := by simp [World.setCell]
        generalize w6.setCell ⟨w.heap.size + 1 + 1 + 1, 6, none⟩ (.slice ea en ek) = w7 at *
        clear HB6 HB5 HER6 FA6 FR6
        have p1 := F17.out.cell
        have s0 := FS7.out.cell 0
        simp at s0
        go_wp2_with fail
        clear p1 s0
        refine (l13Count_any lo _ _ _ B x.nm _ (HK.out.below HB7.out)).mono ?_
        rintro e w8 ⟨c, rfl, hc, hb8⟩
        have HCT := ctB_li HMEM.out
        have HC1 : Hid (c.li = (ctL B.cs x.nm x.im).li) := by unfold Hid; rw [hc.out]; exact HCT.1
        have HC2 : Hid (c.en = (ctL B.cs x.nm x.im).en) := by unfold Hid; rw [hc.out]; exact HCT.2
        have bl : (0 ≤ c.li ∧ c.li ≤ 200) ∧ (0 ≤ c.en ∧ c.en ≤ 200) := by
          have h1 := ct_len (liveB x.nm) B.cs
          have h2 := ct_len (endB x.nm) B.cs
          have e1 : c.li = ct (liveB x.nm) B.cs := HC1.out
          have e2 : c.en = ct (endB x.nm) B.cs := HC2.out
          omega
        have HB8 := hide (bt HB7.out hb8)
        have FA8 := hide (FA7.out.on hb8)
        have FR8 := hide (FR7.out.on hb8)
        have HER8 := hide (HER7.out.below hb8)
        have hz8 := hb8.size
        clear hc hb8 HCT HB7 FA7 FR7 HER7 F17 FS7
        have vv : IntKind.i64.wrap (c.li + c.en) = c.li + c.en := by rw [IntWalk.i64_left]; unfold wrap64; omega
        have FA9 := fun o => hide (FA8.out.on (one_al _ o))
        have FR9' := fun o => hide (FR8.out.on (one_al _ o))
        have a7 : ∀ o, (w8.alloc o).cell? ⟨w.heap.size + 1 + 1 + 1, 7, none⟩ = some (.bool false) := fun o => by rw [(FA9 o).out.cell 7]; rfl
        have f7 : ∀ o, (w8.alloc o).frozen? ⟨w.heap.size + 1 + 1 + 1, 7, none⟩ = false := fun o => (FA9 o).out.free 7
        have HE5 : Hid (askS 5 B x = { ac0 x with es := (liveL B x.nm).map enOf, dp := (c.li + c.en == 0) }) := by
          unfold Hid
          rw [HE.out, ← HC1.out, ← HC2.out]
          rfl
        clear HE
        have HE := HE5
        clear HE5
        obtain ⟨dp, hdp⟩ : ∃ d, d = (c.li + c.en == 0) := ⟨_, rfl⟩
        rw [← hdp] at HE
        have hdq : (c.li + c.en == 0) = dp := hdp.symm
        clear hdp
        have FA10 := fun o => hide ((FA9 o).out.set (k := 7) (.bool dp) (by simp [acL]))
        have FR10 := fun o => hide ((FR9' o).out.setFar (p := ⟨w.heap.size + 1 + 1 + 1, 7, none⟩) (by simp only []; omega) (.bool dp))
        have HB10 := fun o => hide ((bt HB8.out (one_al _ o)).setCell (p := ⟨w.heap.size + 1 + 1 + 1, 7, none⟩) (by simp only []; omega) (.bool dp))
        have HRA : ∀ o, Hid (((w8.alloc o).setCell ⟨w.heap.size + 1 + 1 + 1, 7, none⟩ (.bool dp)).rangeAt (w.heap.size + 1 + 1 + 1) 0 (acL { ac0 x with es := (liveL B x.nm).map enOf, dp := dp } (.slice ea en ek))) := fun o => (FA10 o).out.range rfl
        have HTH : ∀ o, Hid (((w8.alloc o).setCell ⟨w.heap.size + 1 + 1 + 1, 7, none⟩ (.bool dp)).there (w.heap.size + 1 + 1) 0 8) := fun o => (FR10 o).out.there rfl
        go_wp2_with (first
          | (refine wpList_load_mid rfl 47 (.tmp 7) rfl (w.heap.size + 1 + 1 + 1) 0 rfl (acL { ac0 x with es := (liveL B x.nm).map enOf, dp := dp } (.slice ea en ek)) _ (HRA _).out Tryz.underlying47 rfl Tryz.sizeAct ?_)
          | (refine wpList_store_mid rfl 47 (.tmp 6) (.tmp 46) rfl (w.heap.size + 1 + 1) 0 (acL { ac0 x with es := (liveL B x.nm).map enOf, dp := dp } (.slice ea en ek)).toArray rfl rfl (HTH _).out Tryz.sizeAct (acL_one _) ?_; refine Hid.out ?_))
        generalize hW : World.setCells _ _ _ _ = W9
        have FR9 : Hid (Box W9 (w.heap.size + 1 + 1) (acL { ac0 x with es := (liveL B x.nm).map enOf, dp := dp } (.slice ea en ek)).toArray) := by unfold Hid; rw [← hW]; exact (FR10 _).out.full (cs' := (acL { ac0 x with es := (liveL B x.nm).map enOf, dp := dp } (.slice ea en ek)).toArray) rfl
        have HB9 : Hid (Below w.heap.size w W9) := by unfold Hid; rw [← hW]; exact Below.sets (by omega) _ _ (HB10 _).out
        have HER : Hid (ERow W9 w.heap.size (.slice ea en ek) ((liveL B x.nm).map enOf)) := by
          unfold Hid
          rw [← hW]
          refine ERow.low (base := w5.heap.size) ?_ (by omega)
          obtain ⟨h1, h2 | ⟨g, cap, cur, h3, h4, h5, h6⟩⟩ := HER8.out
          · exact ⟨h1, Or.inl h2⟩
          · refine ⟨h1, Or.inr ⟨g, cap, cur, h3, h4, ?_, h6⟩⟩
            have hgz := (Array.getElem?_eq_some_iff.1 h5).1
            rw [World.heap_setCells_other _ _ _ _ (by simp [World.setCell]; omega) (by omega), Below.heap_setCell _ _ _ _ (by simp only []; omega), Below.heap_alloc _ _ _ hgz]
            exact h5
        clear hW
        refine hide ?_
        go_wp2
        refine bodyPost_ret (v := .agg (acL { ac0 x with es := (liveL B x.nm).map enOf, dp := dp } (.slice ea en ek)).toArray) (res_act rfl _ _ (w.heap.size + 1 + 1) 0 (acL { ac0 x with es := (liveL B x.nm).map enOf, dp := dp } (.slice ea en ek)) _ rfl (FR9.out.range rfl) Tryz.underlying47 rfl Tryz.sizeAct) rfl ⟨(.slice ea en ek), (by rw [HE.out]; try rfl), HB9.out, by rw [HE.out]; exact HER.out⟩
      · have hk5 : (kind == 5) = false := by simpa using h5
        have HE : Hid (askS kind B x = ac0 x) := by unfold Hid askS; rw [if_neg h3, hg, if_pos rfl, if_neg h5]
        clear h3 h5
        go_wp2
        generalize hW : World.alloc (World.alloc (World.alloc (w.alloc _) _) _) _ = W9
        have FR9 : Hid (Box W9 (w.heap.size + 1 + 1) (acL (ac0 x) (.slice none 0 0)).toArray) := by unfold Hid; rw [← hW]; exact (Box.new _ _ _ _ (by simp)).on (one_al _ _)
        have HB9 : Hid (Below w.heap.size w W9) := by unfold Hid; rw [← hW]; exact (((one_al w _).alloc (by simp) _).alloc (by simp; omega) _).alloc (by simp; omega) _
        have HER : Hid (ERow W9 w.heap.size (.slice none 0 0) []) := ⟨rfl, Or.inl ⟨rfl, rfl⟩⟩
        clear hW
        refine bodyPost_ret (v := .agg (acL (ac0 x) (.slice none 0 0)).toArray) (res_act rfl _ _ (w.heap.size + 1 + 1) 0 (acL (ac0 x) (.slice none 0 0)) _ rfl (FR9.out.range rfl) Tryz.underlying47 rfl Tryz.sizeAct) rfl ⟨(.slice none 0 0), (by rw [HE.out]; try rfl), HB9.out, by rw [HE.out]; exact HER.out⟩
    | false =>
      by_cases h1 : kind = 1
      · subst h1
        have HE : Hid (askS 1 B x = cntF B x) := by unfold Hid askS; rw [if_neg h3, hg]; rfl
        clear h3
        go_wp2_with fail
        generalize hWa : World.alloc (World.alloc (World.alloc (w.alloc _) _) _) _ = Wa
        have HB : Hid (Below w.heap.size w Wa) := by unfold Hid; rw [← hWa]; exact (((one_al w _).alloc (by simp) _).alloc (by simp; omega) _).alloc (by simp; omega) _
        have F1 : Hid (Box Wa w.heap.size #[.int .i64 B.now, .slice a0 B.ss.length k0, .slice a1 B.cs.length k1, .slice a2 B.bs.length k2]) := by unfold Hid; rw [← hWa]; exact (((Box.new _ _ _ _ rfl).on (one_al _ _)).on (one_al _ _)).on (one_al _ _)
        have FS : Hid (Box Wa (w.heap.size + 1) #[.string x.nm, .int .i64 x.ve, .bool false, .int .i64 x.im, .int .i64 x.wa, .int .i64 x.dn, .int .i64 x.ov, .int .i64 x.nx, .int .i64 x.pr, .int .i64 x.ls, .int .i64 x.ms, .int .i64 x.ld, .int .i64 x.cl]) := by unfold Hid; rw [← hWa]; exact ((Box.new _ _ _ _ (by simp)).on (one_al _ _)).on (one_al _ _)
        have FR : Hid (Box Wa (w.heap.size + 1 + 1) zAct.toArray) := by unfold Hid; rw [← hWa]; exact (Box.new _ _ _ _ (by simp)).on (one_al _ _)
        have FA : Hid (Box Wa (w.heap.size + 1 + 1 + 1) (acL (ac0 x) (.slice none 0 0)).toArray) := by unfold Hid; rw [← hWa]; exact Box.new _ _ _ _ (by simp)
        have hsz : w.heap.size + 4 ≤ Wa.heap.size := by rw [← hWa]; simp
        clear hWa
        have hcal := l16Counter_any lo _ _ _ B x _ (HK.out.below HB.out) HV.out hl (svB_wa' HSV.out) (svB_ov' HSV.out)
        rw [hg] at hcal
        refine hcal.mono ?_
        clear hcal
        rintro e w5 ⟨ev, rfl, hb5, her⟩
        have HB5 := hide (bt HB.out hb5)
        have FR5 := hide (FR.out.on hb5)
        have hz5 := hb5.size
        obtain ⟨ea, ek, eeq⟩ := her.form
        obtain ⟨en, hen⟩ : ∃ n, n = (cntF B x).es.length := ⟨_, rfl⟩
        rw [← hen] at eeq
        subst eeq
        have HEN := hide hen
        have HER5 := hide her
        clear hb5 her hen
        have HTH : Hid (w5.there (w.heap.size + 1 + 1) 0 8) := FR5.out.there rfl
        go_wp2_with (first
          | (refine wpList_store_mid rfl 47 (.tmp 6) (.tmp 53) rfl (w.heap.size + 1 + 1) 0 (acL (cntF B x) (.slice ea en ek)).toArray rfl rfl HTH.out Tryz.sizeAct (acL_one _) ?_; refine Hid.out ?_))
        generalize hW : World.setCells _ _ _ _ = W9
        have FR9 : Hid (Box W9 (w.heap.size + 1 + 1) (acL (cntF B x) (.slice ea en ek)).toArray) := by unfold Hid; rw [← hW]; exact FR5.out.full (cs' := (acL (cntF B x) (.slice ea en ek)).toArray) rfl
        have HB9 : Hid (Below w.heap.size w W9) := by unfold Hid; rw [← hW]; exact Below.sets (by omega) _ _ HB5.out
        have HER : Hid (ERow W9 w.heap.size (.slice ea en ek) (cntF B x).es) := by
          unfold Hid
          rw [← hW]
          refine ERow.low (base := Wa.heap.size) ?_ (by omega)
          obtain ⟨h1, h2 | ⟨g, cap, cur, h3, h4, h5, h6⟩⟩ := HER5.out
          · exact ⟨h1, Or.inl h2⟩
          · refine ⟨h1, Or.inr ⟨g, cap, cur, h3, h4, ?_, h6⟩⟩
            have hgz := (Array.getElem?_eq_some_iff.1 h5).1
            rw [World.heap_setCells_other _ _ _ _ (by simpa [World.setCell] using hgz) (by omega)]
            exact h5
        clear hW
        refine hide ?_
        go_wp2
        refine bodyPost_ret (v := .agg (acL (cntF B x) (.slice ea en ek)).toArray) (res_act rfl _ _ (w.heap.size + 1 + 1) 0 (acL (cntF B x) (.slice ea en ek)) _ rfl (FR9.out.range rfl) Tryz.underlying47 rfl Tryz.sizeAct) rfl ⟨(.slice ea en ek), (by rw [HE.out]; try rfl), HB9.out, by rw [HE.out]; exact HER.out⟩
      · have hk1 : (kind == 1) = false := by simpa using h1
        by_cases h2 : kind = 2
        · subst h2
          have HE : Hid (askS 2 B x = repF B x (oldL B x)) := by unfold Hid askS; rw [if_neg h3, hg]; rfl
          clear h3 h1
          go_wp2_with fail
          generalize hWa : World.alloc (World.alloc (World.alloc (w.alloc _) _) _) _ = Wa
          have HB : Hid (Below w.heap.size w Wa) := by unfold Hid; rw [← hWa]; exact (((one_al w _).alloc (by simp) _).alloc (by simp; omega) _).alloc (by simp; omega) _
          have F1 : Hid (Box Wa w.heap.size #[.int .i64 B.now, .slice a0 B.ss.length k0, .slice a1 B.cs.length k1, .slice a2 B.bs.length k2]) := by unfold Hid; rw [← hWa]; exact (((Box.new _ _ _ _ rfl).on (one_al _ _)).on (one_al _ _)).on (one_al _ _)
          have FS : Hid (Box Wa (w.heap.size + 1) #[.string x.nm, .int .i64 x.ve, .bool false, .int .i64 x.im, .int .i64 x.wa, .int .i64 x.dn, .int .i64 x.ov, .int .i64 x.nx, .int .i64 x.pr, .int .i64 x.ls, .int .i64 x.ms, .int .i64 x.ld, .int .i64 x.cl]) := by unfold Hid; rw [← hWa]; exact ((Box.new _ _ _ _ (by simp)).on (one_al _ _)).on (one_al _ _)
          have FR : Hid (Box Wa (w.heap.size + 1 + 1) zAct.toArray) := by unfold Hid; rw [← hWa]; exact (Box.new _ _ _ _ (by simp)).on (one_al _ _)
          have FA : Hid (Box Wa (w.heap.size + 1 + 1 + 1) (acL (ac0 x) (.slice none 0 0)).toArray) := by unfold Hid; rw [← hWa]; exact Box.new _ _ _ _ (by simp)
          have hsz : w.heap.size + 4 ≤ Wa.heap.size := by rw [← hWa]; simp
          clear hWa
          have HSB : Hid (∀ W, Below Wa.heap.size Wa W → W.rangeAt w.heap.size 0 [.int .i64 B.now, .slice a0 B.ss.length k0, .slice a1 B.cs.length k1, .slice a2 B.bs.length k2]) := fun W hW => (F1.out.on hW).range rfl
          have HSS : Hid (∀ W, Below Wa.heap.size Wa W → W.rangeAt (w.heap.size + 1) 0 [.string x.nm, .int .i64 x.ve, .bool false, .int .i64 x.im, .int .i64 x.wa, .int .i64 x.dn, .int .i64 x.ov, .int .i64 x.nx, .int .i64 x.pr, .int .i64 x.ls, .int .i64 x.ms, .int .i64 x.ld, .int .i64 x.cl]) := fun W hW => (FS.out.on hW).range rfl
          have HSA : Hid (∀ W, Below Wa.heap.size Wa W → W.rangeAt (w.heap.size + 1 + 1 + 1) 0 (acL (ac0 x) (.slice none 0 0))) := fun W hW => (FA.out.on hW).range rfl
          refine Code.wp_mono NoPanic.imp ?_
          refine wp_region_E (S := fun W => Below Wa.heap.size Wa W) 8 (by kernel_rfl) ((Below.refl _ _).drew) (fun hHeld => ?_)
          refine wpAnyE_take [7, 8] (i := 0) rfl (by kernel_rfl) (by kernel_rfl) (by kernel_rfl) (by kernel_rfl) (fun _ _ _ h => h) (yieldsIf_load_mid (by rfl) 34 (.tmp 4) rfl w.heap.size 0 rfl [.int .i64 B.now, .slice a0 B.ss.length k0, .slice a1 B.cs.length k1, .slice a2 B.bs.length k2] _ HSB.out Tryz.underlying34 rfl (by kernel_rfl)) hHeld ?_
          try simp only [Act.put, List.getElem_toArray, List.getElem_cons_zero, List.setIfInBounds_toArray, List.set_cons_zero, List.set_cons_succ]
          refine wpAnyE_take [7, 8] (i := 1) rfl (by kernel_rfl) (by kernel_rfl) (by kernel_rfl) (by kernel_rfl) (fun _ _ _ h => h) (yieldsIf_load_mid (by rfl) 50 (.tmp 5) rfl (w.heap.size + 1) 0 rfl [.string x.nm, .int .i64 x.ve, .bool false, .int .i64 x.im, .int .i64 x.wa, .int .i64 x.dn, .int .i64 x.ov, .int .i64 x.nx, .int .i64 x.pr, .int .i64 x.ls, .int .i64 x.ms, .int .i64 x.ld, .int .i64 x.cl] _ HSS.out Tryz.underlying50 rfl (by kernel_rfl)) hHeld ?_
          try simp only [Act.put, List.getElem_toArray, List.getElem_cons_succ, List.getElem_cons_zero, List.setIfInBounds_toArray, List.set_cons_zero, List.set_cons_succ]
          refine wpAnyE_take [7, 8] (i := 2) rfl (by kernel_rfl) (by kernel_rfl) (by kernel_rfl) (by kernel_rfl) (fun _ _ _ h => h) (yieldsIf_load_mid (by rfl) 47 (.tmp 7) rfl (w.heap.size + 1 + 1 + 1) 0 rfl (acL (ac0 x) (.slice none 0 0)) _ HSA.out Tryz.underlying47 rfl (by kernel_rfl)) hHeld ?_
          try simp only [Act.put, List.getElem_toArray, List.getElem_cons_succ, List.getElem_cons_zero, List.setIfInBounds_toArray, List.set_cons_zero, List.set_cons_succ]
          refine wpAnyE_take [6, 7, 8] (i := 3) rfl (by kernel_rfl) (by kernel_rfl) (by kernel_rfl) (by kernel_rfl) (fun _ _ _ h => h) (yieldsIf_load_mid (by rfl) 34 (.tmp 4) rfl w.heap.size 0 rfl [.int .i64 B.now, .slice a0 B.ss.length k0, .slice a1 B.cs.length k1, .slice a2 B.bs.length k2] _ HSB.out Tryz.underlying34 rfl (by kernel_rfl)) hHeld ?_
          try simp only [Act.put, List.getElem_toArray, List.getElem_cons_succ, List.getElem_cons_zero, List.setIfInBounds_toArray, List.set_cons_zero, List.set_cons_succ]
          refine wpAnyE_take [6, 7, 8] (i := 4) rfl (by kernel_rfl) (by kernel_rfl) (by kernel_rfl) (by kernel_rfl) (fun _ _ _ h => h) (yieldsIf_load_mid (by rfl) 50 (.tmp 5) rfl (w.heap.size + 1) 0 rfl [.string x.nm, .int .i64 x.ve, .bool false, .int .i64 x.im, .int .i64 x.wa, .int .i64 x.dn, .int .i64 x.ov, .int .i64 x.nx, .int .i64 x.pr, .int .i64 x.ls, .int .i64 x.ms, .int .i64 x.ld, .int .i64 x.cl] _ HSS.out Tryz.underlying50 rfl (by kernel_rfl)) hHeld ?_
          try simp only [Act.put, List.getElem_toArray, List.getElem_cons_succ, List.getElem_cons_zero, List.setIfInBounds_toArray, List.set_cons_zero, List.set_cons_succ]
          refine wpAnyE_take [6, 7, 8] (i := 5) (v := .int .i64 2) rfl (by kernel_rfl) (by kernel_rfl) (by kernel_rfl) (by kernel_rfl) (fun _ _ _ h => h) (Or.inl ⟨by rfl, fun W hW => by go_simp⟩) hHeld ?_
          try simp only [Act.put, List.getElem_toArray, List.getElem_cons_succ, List.getElem_cons_zero, List.setIfInBounds_toArray, List.set_cons_zero, List.set_cons_succ]
          refine wpAnyE_one (i := 6) (by kernel_rfl) rfl (fun K0 hK => ?_)
          go_simp
          have hsome := l16Some_any lo _ _ _ B x 2 (Or.inl rfl) _ (HK.out.below (bt HB.out ((Below.refl _ _).drew))) hl
          rw [hg] at hsome
          refine hsome.mono ?_
          clear hsome
          rintro e w5 ⟨v5, rfl, hb5, hr5⟩
          have HB5 : Hid (Below Wa.heap.size Wa w5) := bt ((Below.refl _ _).drew) hb5
          have HR5 := hide hr5
          clear hHeld hb5 hr5
          refine hK.out _ _ (fun _ => HB5.out) (fun hHx => ?_)
          have hHeld := hHx (by decide)
          clear hK K0 hHx
          try simp only [Act.put, List.getElem_toArray, List.getElem_cons_succ, List.getElem_cons_zero, List.setIfInBounds_toArray, List.set_cons_zero, List.set_cons_succ]
          refine wpAnyE_one (i := 7) (by kernel_rfl) rfl (fun K0 hK => ?_)
          go_simp
          have hrep := l16Replace_any lo _ _ _ _ _ B x (someP B x 2 (plc (liveB x.nm) B.cs B.cs.length)) _ (HK.out.below (bt HB.out HB5.out)) HV.out hl (svB_wa' HSV.out) (svB_ov' HSV.out) HR5.out (fun i hi => plc_lt (List.mem_filter.1 hi).1) (by have := someP_len B x 2 (plc (liveB x.nm) B.cs B.cs.length); omega)
          rw [hg, getP_some, live_get, some_2] at hrep
          refine hrep.mono ?_
          clear hrep
          rintro e w6 ⟨ev, rfl, hb6, her⟩
          have HB6 : Hid (Below Wa.heap.size Wa w6) := bt HB5.out hb6
          have HER6 := hide her
          have hz6 := hb6.size
          have hz5 := HB5.out.size
          clear hHeld hb6 her
          refine hK.out _ _ (fun _ => HB6.out) (fun hHx => ?_)
          have hHeld := hHx (by decide)
          clear hK K0 hHx
          try simp only [Act.put, List.getElem_toArray, List.getElem_cons_succ, List.getElem_cons_zero, List.setIfInBounds_toArray, List.set_cons_zero, List.set_cons_succ]
          refine wpAnyE_one (i := 8) (by kernel_rfl) rfl (fun K0 hK => ?_)
          obtain ⟨ea, ek, eeq⟩ := HER6.out.form
          obtain ⟨en, hen⟩ : ∃ n, n = (repF B x (oldL B x)).es.length := ⟨_, rfl⟩
          rw [← hen] at eeq
          subst eeq
          clear hen
          have FR6 := hide (FR.out.on HB6.out)
          have HTH : Hid (w6.there (w.heap.size + 1 + 1) 0 8) := FR6.out.there rfl
          rw [if_pos (by rfl)]
          refine wp_store_mid 47 (.tmp 6) (.tmp 63) rfl (w.heap.size + 1 + 1) 0 (acL (repF B x (oldL B x)) (.slice ea en ek)).toArray rfl rfl HTH.out Tryz.sizeAct (acL_one _) ?_
          refine hK.out _ _ (fun h => absurd rfl h) (fun _ => ?_)
          clear hK K0 hHeld
          try simp only [Act.put, List.getElem_toArray, List.getElem_cons_succ, List.getElem_cons_zero]
          refine wpAnyE_done (by kernel_rfl) ?_ _
          try simp only [List.getElem_toArray, List.getElem_cons_succ, List.getElem_cons_zero]
          refine NoPanic.normal ?_
          refine Hid.out ?_
          generalize hW : World.setCells _ _ _ _ = W9
          have FR9 : Hid (Box W9 (w.heap.size + 1 + 1) (acL (repF B x (oldL B x)) (.slice ea en ek)).toArray) := by unfold Hid; rw [← hW]; exact FR6.out.full (cs' := (acL (repF B x (oldL B x)) (.slice ea en ek)).toArray) rfl
          have HB9 : Hid (Below w.heap.size w W9) := by unfold Hid; rw [← hW]; exact Below.sets (by omega) _ _ (bt HB.out HB6.out)
          have HER : Hid (ERow W9 w.heap.size (.slice ea en ek) (repF B x (oldL B x)).es) := by
            unfold Hid
            rw [← hW]
            refine ERow.low (base := w5.heap.size) ?_ (by omega)
            obtain ⟨h1, h2 | ⟨g, cap, cur, h3, h4, h5, h6⟩⟩ := HER6.out
            · exact ⟨h1, Or.inl h2⟩
            · refine ⟨h1, Or.inr ⟨g, cap, cur, h3, h4, ?_, h6⟩⟩
              have hgz := (Array.getElem?_eq_some_iff.1 h5).1
              rw [World.heap_setCells_other _ _ _ _ (by simpa [World.setCell] using hgz) (by omega)]
              exact h5
          clear hW
          refine hide ?_
          go_wp2
          refine bodyPost_ret (v := .agg (acL (repF B x (oldL B x)) (.slice ea en ek)).toArray) (res_act rfl _ _ (w.heap.size + 1 + 1) 0 (acL (repF B x (oldL B x)) (.slice ea en ek)) _ rfl (FR9.out.range rfl) Tryz.underlying47 rfl Tryz.sizeAct) rfl ⟨(.slice ea en ek), (by rw [HE.out]; try rfl), HB9.out, by rw [HE.out]; exact HER.out⟩
        · have hk2 : (kind == 2) = false := by simpa using h2
          by_cases h6 : kind = 6
          · subst h6
            go_wp2_with fail
            generalize hWa : World.alloc (World.alloc (World.alloc (w.alloc _) _) _) _ = Wa
            have HB : Hid (Below w.heap.size w Wa) := by unfold Hid; rw [← hWa]; exact (((one_al w _).alloc (by simp) _).alloc (by simp; omega) _).alloc (by simp; omega) _
            have F1 : Hid (Box Wa w.heap.size #[.int .i64 B.now, .slice a0 B.ss.length k0, .slice a1 B.cs.length k1, .slice a2 B.bs.length k2]) := by unfold Hid; rw [← hWa]; exact (((Box.new _ _ _ _ rfl).on (one_al _ _)).on (one_al _ _)).on (one_al _ _)
            have FS : Hid (Box Wa (w.heap.size + 1) #[.string x.nm, .int .i64 x.ve, .bool false, .int .i64 x.im, .int .i64 x.wa, .int .i64 x.dn, .int .i64 x.ov, .int .i64 x.nx, .int .i64 x.pr, .int .i64 x.ls, .int .i64 x.ms, .int .i64 x.ld, .int .i64 x.cl]) := by unfold Hid; rw [← hWa]; exact ((Box.new _ _ _ _ (by simp)).on (one_al _ _)).on (one_al _ _)
            have FR : Hid (Box Wa (w.heap.size + 1 + 1) zAct.toArray) := by unfold Hid; rw [← hWa]; exact (Box.new _ _ _ _ (by simp)).on (one_al _ _)
            have FA : Hid (Box Wa (w.heap.size + 1 + 1 + 1) (acL (ac0 x) (.slice none 0 0)).toArray) := by unfold Hid; rw [← hWa]; exact Box.new _ _ _ _ (by simp)
            have hsz : w.heap.size + 4 ≤ Wa.heap.size := by rw [← hWa]; simp
            clear hWa
            have hsome := l16Some_any lo _ _ _ B x 2 (Or.inl rfl) _ (HK.out.below HB.out) hl
            rw [hg] at hsome
            refine hsome.mono ?_
            clear hsome
            rintro e w3 ⟨v3, rfl, hb3, hr3⟩
            obtain ⟨O, hO⟩ : ∃ O, O = (oldL B x).length := ⟨_, rfl⟩
            obtain ⟨a5, k5, e5⟩ := hr3.form
            have hle : (someP B x 2 (plc (liveB x.nm) B.cs B.cs.length)).length = O := by
              rw [hO, ← getP_all (L := B.cs) (P := someP B x 2 (plc (liveB x.nm) B.cs B.cs.length)) (fun i hi => plc_lt (List.mem_filter.1 hi).1), getP_some, live_get]
              rfl
            rw [hle] at e5
            subst e5
            have HB3 := hide (bt HB.out hb3)
            have F13 := hide (F1.out.on hb3)
            have FS3 := hide (FS.out.on hb3)
            have FR3 := hide (FR.out.on hb3)
            have FA3 := hide (FA.out.on hb3)
            have hz3 := hb3.size
            clear hb3 hr3 hle HB F1 FS FR FA
            by_cases hO0 : O = 0
            · have hOz : ((O : Int) == 0) = true := by simp [hO0]
              have HE : Hid (askS 6 B x = repF B x (drL B x)) := by
                unfold Hid askS
                rw [if_neg h3, hg, ← hO, if_pos hO0]
                rfl
              clear hO0 hO h3 h1 h2
              obtain ⟨Wx, hWx⟩ : ∃ W, W = Wa := ⟨_, rfl⟩
              clear hsz hWx Wx
              go_wp2_with fail
              have HB := HB3
              have F1 := F13
              have FS := FS3
              have FR := FR3
              have FA := FA3
              have hsz := F1.out.lt
              have hsz2 := FA.out.lt
              clear HB3 F13 FS3 FR3 FA3
              have HSB : Hid (∀ W, Below w3.heap.size w3 W → W.rangeAt w.heap.size 0 [.int .i64 B.now, .slice a0 B.ss.length k0, .slice a1 B.cs.length k1, .slice a2 B.bs.length k2]) := fun W hW => (F1.out.on hW).range rfl
              have HSS : Hid (∀ W, Below w3.heap.size w3 W → W.rangeAt (w.heap.size + 1) 0 [.string x.nm, .int .i64 x.ve, .bool false, .int .i64 x.im, .int .i64 x.wa, .int .i64 x.dn, .int .i64 x.ov, .int .i64 x.nx, .int .i64 x.pr, .int .i64 x.ls, .int .i64 x.ms, .int .i64 x.ld, .int .i64 x.cl]) := fun W hW => (FS.out.on hW).range rfl
              have HSA : Hid (∀ W, Below w3.heap.size w3 W → W.rangeAt (w.heap.size + 1 + 1 + 1) 0 (acL (ac0 x) (.slice none 0 0))) := fun W hW => (FA.out.on hW).range rfl
              refine Code.wp_mono NoPanic.imp ?_
              refine wp_region_E (S := fun W => Below w3.heap.size w3 W) 8 (by kernel_rfl) ((Below.refl _ _).drew) (fun hHeld => ?_)
              refine wpAnyE_take [7, 8] (i := 0) rfl (by kernel_rfl) (by kernel_rfl) (by kernel_rfl) (by kernel_rfl) (fun _ _ _ h => h) (yieldsIf_load_mid (by rfl) 34 (.tmp 4) rfl w.heap.size 0 rfl [.int .i64 B.now, .slice a0 B.ss.length k0, .slice a1 B.cs.length k1, .slice a2 B.bs.length k2] _ HSB.out Tryz.underlying34 rfl (by kernel_rfl)) hHeld ?_
              try simp only [Act.put, List.getElem_toArray, List.getElem_cons_zero, List.setIfInBounds_toArray, List.set_cons_zero, List.set_cons_succ]
              refine wpAnyE_take [7, 8] (i := 1) rfl (by kernel_rfl) (by kernel_rfl) (by kernel_rfl) (by kernel_rfl) (fun _ _ _ h => h) (yieldsIf_load_mid (by rfl) 50 (.tmp 5) rfl (w.heap.size + 1) 0 rfl [.string x.nm, .int .i64 x.ve, .bool false, .int .i64 x.im, .int .i64 x.wa, .int .i64 x.dn, .int .i64 x.ov, .int .i64 x.nx, .int .i64 x.pr, .int .i64 x.ls, .int .i64 x.ms, .int .i64 x.ld, .int .i64 x.cl] _ HSS.out Tryz.underlying50 rfl (by kernel_rfl)) hHeld ?_
              try simp only [Act.put, List.getElem_toArray, List.getElem_cons_succ, List.getElem_cons_zero, List.setIfInBounds_toArray, List.set_cons_zero, List.set_cons_succ]
              refine wpAnyE_take [7, 8] (i := 2) rfl (by kernel_rfl) (by kernel_rfl) (by kernel_rfl) (by kernel_rfl) (fun _ _ _ h => h) (yieldsIf_load_mid (by rfl) 47 (.tmp 7) rfl (w.heap.size + 1 + 1 + 1) 0 rfl (acL (ac0 x) (.slice none 0 0)) _ HSA.out Tryz.underlying47 rfl (by kernel_rfl)) hHeld ?_
              try simp only [Act.put, List.getElem_toArray, List.getElem_cons_succ, List.getElem_cons_zero, List.setIfInBounds_toArray, List.set_cons_zero, List.set_cons_succ]
              refine wpAnyE_take [6, 7, 8] (i := 3) rfl (by kernel_rfl) (by kernel_rfl) (by kernel_rfl) (by kernel_rfl) (fun _ _ _ h => h) (yieldsIf_load_mid (by rfl) 34 (.tmp 4) rfl w.heap.size 0 rfl [.int .i64 B.now, .slice a0 B.ss.length k0, .slice a1 B.cs.length k1, .slice a2 B.bs.length k2] _ HSB.out Tryz.underlying34 rfl (by kernel_rfl)) hHeld ?_
              try simp only [Act.put, List.getElem_toArray, List.getElem_cons_succ, List.getElem_cons_zero, List.setIfInBounds_toArray, List.set_cons_zero, List.set_cons_succ]
              refine wpAnyE_take [6, 7, 8] (i := 4) rfl (by kernel_rfl) (by kernel_rfl) (by kernel_rfl) (by kernel_rfl) (fun _ _ _ h => h) (yieldsIf_load_mid (by rfl) 50 (.tmp 5) rfl (w.heap.size + 1) 0 rfl [.string x.nm, .int .i64 x.ve, .bool false, .int .i64 x.im, .int .i64 x.wa, .int .i64 x.dn, .int .i64 x.ov, .int .i64 x.nx, .int .i64 x.pr, .int .i64 x.ls, .int .i64 x.ms, .int .i64 x.ld, .int .i64 x.cl] _ HSS.out Tryz.underlying50 rfl (by kernel_rfl)) hHeld ?_
              try simp only [Act.put, List.getElem_toArray, List.getElem_cons_succ, List.getElem_cons_zero, List.setIfInBounds_toArray, List.set_cons_zero, List.set_cons_succ]
              refine wpAnyE_take [6, 7, 8] (i := 5) (v := .int .i64 6) rfl (by kernel_rfl) (by kernel_rfl) (by kernel_rfl) (by kernel_rfl) (fun _ _ _ h => h) (Or.inl ⟨by rfl, fun W hW => by go_simp⟩) hHeld ?_
              try simp only [Act.put, List.getElem_toArray, List.getElem_cons_succ, List.getElem_cons_zero, List.setIfInBounds_toArray, List.set_cons_zero, List.set_cons_succ]
              refine wpAnyE_one (i := 6) (by kernel_rfl) rfl (fun K0 hK => ?_)
              go_simp
              have hsome := l16Some_any lo _ _ _ B x 6 (Or.inr (Or.inl rfl)) _ (HK.out.below (bt HB.out ((Below.refl _ _).drew))) hl
              rw [hg] at hsome
              refine hsome.mono ?_
              clear hsome
              rintro e w5 ⟨v5, rfl, hb5, hr5⟩
              have HB5 : Hid (Below w3.heap.size w3 w5) := bt ((Below.refl _ _).drew) hb5
              have HR5 := hide hr5
              clear hHeld hb5 hr5
              refine hK.out _ _ (fun _ => HB5.out) (fun hHx => ?_)
              have hHeld := hHx (by decide)
              clear hK K0 hHx
              try simp only [Act.put, List.getElem_toArray, List.getElem_cons_succ, List.getElem_cons_zero, List.setIfInBounds_toArray, List.set_cons_zero, List.set_cons_succ]
              refine wpAnyE_one (i := 7) (by kernel_rfl) rfl (fun K0 hK => ?_)
              go_simp
              have hrep := l16Replace_any lo _ _ _ _ _ B x (someP B x 6 (plc (liveB x.nm) B.cs B.cs.length)) _ (HK.out.below (bt HB.out HB5.out)) HV.out hl (svB_wa' HSV.out) (svB_ov' HSV.out) HR5.out (fun i hi => plc_lt (List.mem_filter.1 hi).1) (by have := someP_len B x 6 (plc (liveB x.nm) B.cs B.cs.length); omega)
              rw [hg, getP_some, live_get, some_6] at hrep
              refine hrep.mono ?_
              clear hrep
              rintro e w6 ⟨ev, rfl, hb6, her⟩
              have HB6 : Hid (Below w3.heap.size w3 w6) := bt HB5.out hb6
              have HER6 := hide her
              have hz6 := hb6.size
              have hz5 := HB5.out.size
              clear hHeld hb6 her
              refine hK.out _ _ (fun _ => HB6.out) (fun hHx => ?_)
              have hHeld := hHx (by decide)
              clear hK K0 hHx
              try simp only [Act.put, List.getElem_toArray, List.getElem_cons_succ, List.getElem_cons_zero, List.setIfInBounds_toArray, List.set_cons_zero, List.set_cons_succ]
              refine wpAnyE_one (i := 8) (by kernel_rfl) rfl (fun K0 hK => ?_)
              obtain ⟨ea, ek, eeq⟩ := HER6.out.form
              obtain ⟨en, hen⟩ : ∃ n, n = (repF B x (drL B x)).es.length := ⟨_, rfl⟩
              rw [← hen] at eeq
              subst eeq
              clear hen
              have FR6 := hide (FR.out.on HB6.out)
              have HTH : Hid (w6.there (w.heap.size + 1 + 1) 0 8) := FR6.out.there rfl
              rw [if_pos (by rfl)]
              refine wp_store_mid 47 (.tmp 6) (.tmp 78) rfl (w.heap.size + 1 + 1) 0 (acL (repF B x (drL B x)) (.slice ea en ek)).toArray rfl rfl HTH.out Tryz.sizeAct (acL_one _) ?_
              refine hK.out _ _ (fun h => absurd rfl h) (fun _ => ?_)
              clear hK K0 hHeld
              try simp only [Act.put, List.getElem_toArray, List.getElem_cons_succ, List.getElem_cons_zero]
              refine wpAnyE_done (by kernel_rfl) ?_ _
              try simp only [List.getElem_toArray, List.getElem_cons_succ, List.getElem_cons_zero]
              refine NoPanic.normal ?_
              refine Hid.out ?_
              generalize hW : World.setCells _ _ _ _ = W9
              have FR9 : Hid (Box W9 (w.heap.size + 1 + 1) (acL (repF B x (drL B x)) (.slice ea en ek)).toArray) := by unfold Hid; rw [← hW]; exact FR6.out.full (cs' := (acL (repF B x (drL B x)) (.slice ea en ek)).toArray) rfl
              have HB9 : Hid (Below w.heap.size w W9) := by unfold Hid; rw [← hW]; exact Below.sets (by omega) _ _ (bt HB.out HB6.out)
              have HER : Hid (ERow W9 w.heap.size (.slice ea en ek) (repF B x (drL B x)).es) := by
                unfold Hid
                rw [← hW]
                refine ERow.low (base := w5.heap.size) ?_ (by omega)
                obtain ⟨h1, h2 | ⟨g, cap, cur, h3, h4, h5, h6⟩⟩ := HER6.out
                · exact ⟨h1, Or.inl h2⟩
                · refine ⟨h1, Or.inr ⟨g, cap, cur, h3, h4, ?_, h6⟩⟩
                  have hgz := (Array.getElem?_eq_some_iff.1 h5).1
                  rw [World.heap_setCells_other _ _ _ _ (by simpa [World.setCell] using hgz) (by omega)]
                  exact h5
              clear hW
              refine hide ?_
              go_wp2
              refine bodyPost_ret (v := .agg (acL (repF B x (drL B x)) (.slice ea en ek)).toArray) (res_act rfl _ _ (w.heap.size + 1 + 1) 0 (acL (repF B x (drL B x)) (.slice ea en ek)) _ rfl (FR9.out.range rfl) Tryz.underlying47 rfl Tryz.sizeAct) rfl ⟨(.slice ea en ek), (by rw [HE.out]; try rfl), HB9.out, by rw [HE.out]; exact HER.out⟩
            · have hOz : ((O : Int) == 0) = false := by rw [beq_eq_false_iff_ne]; omega
              have HE : Hid (askS 6 B x = ac0 x) := by
                unfold Hid askS
                rw [if_neg h3, hg, ← hO, if_neg hO0]
                rfl
              clear hO0 hO h3 h1 h2
              have hsz2 := FA3.out.lt
              have HRA := hide (FA3.out.range (l := acL (ac0 x) (.slice none 0 0)) rfl)
              have HTH : Hid (_ : Prop) := FR3.out.there (n := 8) rfl
              go_wp2_with (first
                | (refine wpList_load_mid rfl 47 (.tmp 7) rfl (w.heap.size + 1 + 1 + 1) 0 rfl (acL (ac0 x) (.slice none 0 0)) _ HRA.out Tryz.underlying47 rfl Tryz.sizeAct ?_)
                | (refine wpList_store_mid rfl 47 (.tmp 6) (.tmp 87) rfl (w.heap.size + 1 + 1) 0 (acL (ac0 x) (.slice none 0 0)).toArray rfl rfl HTH.out Tryz.sizeAct (acL_one _) ?_; refine Hid.out ?_))
              generalize hW : World.setCells _ _ _ _ = W9
              have FR9 : Hid (Box W9 (w.heap.size + 1 + 1) (acL (ac0 x) (.slice none 0 0)).toArray) := by unfold Hid; rw [← hW]; exact FR3.out.full (cs' := (acL (ac0 x) (.slice none 0 0)).toArray) rfl
              have HB9 : Hid (Below w.heap.size w W9) := by unfold Hid; rw [← hW]; exact Below.sets (by omega) _ _ HB3.out
              have HER : Hid (ERow W9 w.heap.size (.slice none 0 0) []) := ⟨rfl, Or.inl ⟨rfl, rfl⟩⟩
              clear hW
              refine hide ?_
              go_wp2
              refine bodyPost_ret (v := .agg (acL (ac0 x) (.slice none 0 0)).toArray) (res_act rfl _ _ (w.heap.size + 1 + 1) 0 (acL (ac0 x) (.slice none 0 0)) _ rfl (FR9.out.range rfl) Tryz.underlying47 rfl Tryz.sizeAct) rfl ⟨(.slice none 0 0), (by rw [HE.out]; try rfl), HB9.out, by rw [HE.out]; exact HER.out⟩
          · have hk6 : (kind == 6) = false := by simpa using h6
            by_cases h4 : kind = 4
            · subst h4
              have hper := svB_per' HSV.out
              by_cases hp : 0 < x.pr
              · have HE : Hid (askS 4 B x = sclF x) := by unfold Hid askS; rw [if_neg h3, hg, if_pos hp]; rfl
                have HES : Hid ((sclF x).es = []) := by unfold Hid sclF ac0; (repeat' split) <;> rfl
                clear h3 h1 h2 h6
                go_wp2_with fail
                generalize hWa : World.alloc (World.alloc (World.alloc (w.alloc _) _) _) _ = Wa
                have HB : Hid (Below w.heap.size w Wa) := by unfold Hid; rw [← hWa]; exact (((one_al w _).alloc (by simp) _).alloc (by simp; omega) _).alloc (by simp; omega) _
                have F1 : Hid (Box Wa w.heap.size #[.int .i64 B.now, .slice a0 B.ss.length k0, .slice a1 B.cs.length k1, .slice a2 B.bs.length k2]) := by unfold Hid; rw [← hWa]; exact (((Box.new _ _ _ _ rfl).on (one_al _ _)).on (one_al _ _)).on (one_al _ _)
                have FS : Hid (Box Wa (w.heap.size + 1) #[.string x.nm, .int .i64 x.ve, .bool false, .int .i64 x.im, .int .i64 x.wa, .int .i64 x.dn, .int .i64 x.ov, .int .i64 x.nx, .int .i64 x.pr, .int .i64 x.ls, .int .i64 x.ms, .int .i64 x.ld, .int .i64 x.cl]) := by unfold Hid; rw [← hWa]; exact ((Box.new _ _ _ _ (by simp)).on (one_al _ _)).on (one_al _ _)
                have FR : Hid (Box Wa (w.heap.size + 1 + 1) zAct.toArray) := by unfold Hid; rw [← hWa]; exact (Box.new _ _ _ _ (by simp)).on (one_al _ _)
                have FA : Hid (Box Wa (w.heap.size + 1 + 1 + 1) (acL (ac0 x) (.slice none 0 0)).toArray) := by unfold Hid; rw [← hWa]; exact Box.new _ _ _ _ (by simp)
                have hsz : w.heap.size + 4 ≤ Wa.heap.size := by rw [← hWa]; simp
                clear hWa
                have hscl := l16Scaler_any x Wa (by omega) (by omega) (by omega) (by omega) (svB_wa' HSV.out).1 (svB_wa' HSV.out).2 (by omega) (by omega)
                rw [hg] at hscl
                refine hscl.mono ?_
                clear hscl
                rintro e w5 ⟨rfl, hb5⟩
                have HB5 := hide (bt HB.out hb5)
                have FR5 := hide (FR.out.on hb5)
                have hz5 := hb5.size
                clear hb5
                have HTH : Hid (w5.there (w.heap.size + 1 + 1) 0 8) := FR5.out.there rfl
                dsimp only [ac0V]
                go_wp2_with (first
                  | (refine wpList_store_mid rfl 47 (.tmp 6) (.tmp 86) rfl (w.heap.size + 1 + 1) 0 (acL (sclF x) (.slice none 0 0)).toArray rfl rfl HTH.out Tryz.sizeAct (acL_one _) ?_; refine Hid.out ?_))
                generalize hW : World.setCells _ _ _ _ = W9
                have FR9 : Hid (Box W9 (w.heap.size + 1 + 1) (acL (sclF x) (.slice none 0 0)).toArray) := by unfold Hid; rw [← hW]; exact FR5.out.full (cs' := (acL (sclF x) (.slice none 0 0)).toArray) rfl
                have HB9 : Hid (Below w.heap.size w W9) := by unfold Hid; rw [← hW]; exact Below.sets (by omega) _ _ HB5.out
                have HER : Hid (ERow W9 w.heap.size (.slice none 0 0) (sclF x).es) := by unfold Hid; rw [HES.out]; exact ⟨rfl, Or.inl ⟨rfl, rfl⟩⟩
                clear hW
                refine hide ?_
                go_wp2
                refine bodyPost_ret (v := .agg (acL (sclF x) (.slice none 0 0)).toArray) (res_act rfl _ _ (w.heap.size + 1 + 1) 0 (acL (sclF x) (.slice none 0 0)) _ rfl (FR9.out.range rfl) Tryz.underlying47 rfl Tryz.sizeAct) rfl ⟨(.slice none 0 0), (by rw [HE.out]; try rfl), HB9.out, by rw [HE.out]; exact HER.out⟩
              · have HE : Hid (askS 4 B x = ac0 x) := by unfold Hid askS; rw [if_neg h3, hg, if_neg hp]; rfl
                have hpz : ¬ (0 < x.pr) := hp
                clear h3 h1 h2 h6 hp
                go_wp2
                generalize hW : World.alloc (World.alloc (World.alloc (w.alloc _) _) _) _ = W9
                have FR9 : Hid (Box W9 (w.heap.size + 1 + 1) (acL (ac0 x) (.slice none 0 0)).toArray) := by unfold Hid; rw [← hW]; exact (Box.new _ _ _ _ (by simp)).on (one_al _ _)
                have HB9 : Hid (Below w.heap.size w W9) := by unfold Hid; rw [← hW]; exact (((one_al w _).alloc (by simp) _).alloc (by simp; omega) _).alloc (by simp; omega) _
                have HER : Hid (ERow W9 w.heap.size (.slice none 0 0) []) := ⟨rfl, Or.inl ⟨rfl, rfl⟩⟩
                clear hW
                refine bodyPost_ret (v := .agg (acL (ac0 x) (.slice none 0 0)).toArray) (res_act rfl _ _ (w.heap.size + 1 + 1) 0 (acL (ac0 x) (.slice none 0 0)) _ rfl (FR9.out.range rfl) Tryz.underlying47 rfl Tryz.sizeAct) rfl ⟨(.slice none 0 0), (by rw [HE.out]; try rfl), HB9.out, by rw [HE.out]; exact HER.out⟩
            · have hk4 : (kind == 4) = false := by simpa using h4
              have HE : Hid (askS kind B x = ac0 x) := by
                unfold Hid askS
                rw [if_neg h3, hg, if_neg h1, if_neg h2, if_neg h6, if_neg h4]
                rfl
              clear h3 h1 h2 h6 h4
              go_wp2
              generalize hW : World.alloc (World.alloc (World.alloc (w.alloc _) _) _) _ = W9
              have FR9 : Hid (Box W9 (w.heap.size + 1 + 1) (acL (ac0 x) (.slice none 0 0)).toArray) := by unfold Hid; rw [← hW]; exact (Box.new _ _ _ _ (by simp)).on (one_al _ _)
              have HB9 : Hid (Below w.heap.size w W9) := by unfold Hid; rw [← hW]; exact (((one_al w _).alloc (by simp) _).alloc (by simp; omega) _).alloc (by simp; omega) _
              have HER : Hid (ERow W9 w.heap.size (.slice none 0 0) []) := ⟨rfl, Or.inl ⟨rfl, rfl⟩⟩
              clear hW
              refine bodyPost_ret (v := .agg (acL (ac0 x) (.slice none 0 0)).toArray) (res_act rfl _ _ (w.heap.size + 1 + 1) 0 (acL (ac0 x) (.slice none 0 0)) _ rfl (FR9.out.range rfl) Tryz.underlying47 rfl Tryz.sizeAct) rfl ⟨(.slice none 0 0), (by rw [HE.out]; try rfl), HB9.out, by rw [HE.out]; exact HER.out⟩
end Go.Proofs.YtpdlcccnlciecaaGreat
