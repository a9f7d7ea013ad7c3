import Derived.Test.YtaogpeebencnoaaGreatDoorA36
import Derived.Test.YtaogpeebencnoaaGreatDoorA49
namespace Go.Proofs.YtaogpeebencnoaaGreatDoor
open Go.RowKit Go.Deep

def sb0 : Sb := ⟨0, [], [], []⟩
/-- what an act comes to -/
def applyA (B : Sb) (A : Ac) : Sb × Int := if validB B then appF B A else (sb0, 1)
theorem endsF_len {v : Int} {s : ByteArray} : ∀ (es : List En) (X Y : Sb), endsF v s es X = some Y → Y.ss = X.ss ∧ Y.bs = X.bs ∧ Y.cs.length = X.cs.length
  | [], X, Y, h => by
    rw [endsF] at h
    cases h
    exact ⟨rfl, rfl, rfl⟩
  | e :: r, X, Y, h => by
    rw [endsF] at h
    split at h
    · obtain ⟨h1, h2, h3⟩ := endsF_len r _ Y h
      exact ⟨h1, h2, h3.trans (by unfold endX; simp)⟩
    · cases h
theorem insF_len (L : List Cp) (c : Cp) : (insF L c).length = L.length + 1 := by
  rw [insF_take, List.length_append, List.length_cons, List.length_take, List.length_drop]
  have := (List.takeWhile_prefix (l := L) fun d => aheadB d c).length_le
  omega
theorem crF_len {s : ByteArray} {v im : Int} : ∀ (n : Nat) (nx : Int) (L : List Cp), (crF s v im n nx L).length = L.length + n
  | 0, _, _ => rfl
  | n + 1, nx, L => by rw [crF, crF_len n, insF_len]; omega
theorem sb_small {B : Sb} (h1 : B.ss.length ≤ 1048576) (h2 : B.cs.length ≤ 1048576) (h3 : B.bs.length ≤ 1048576) : SbSmall B := ⟨⟨h1, fun _ _ => rfl⟩, ⟨h2, fun _ _ => rfl⟩, ⟨h3, fun _ _ => rfl⟩⟩
theorem finX_small {B X : Sb} {A : Ac} {x : Sv} (h : SbSmall B) (h1 : X.ss = B.ss) (h2 : X.bs = B.bs) (h3 : X.cs.length = B.cs.length) (hs : sev B A x = false) : SbSmall (finX B X A x) := by
  unfold sev at hs
  simp only [Bool.or_eq_false_iff, decide_eq_false_iff_not] at hs
  have g1 := h.1.1
  have g2 := h.2.1.1
  have g3 := h.2.2.1
  refine sb_small ?_ ?_ ?_
  · show (if A.dp then _ else _ : List Sv).length ≤ 1048576
    split
    · rw [List.length_eraseIdx]
      split <;> (rw [List.length_set, h1]; omega)
    · rw [List.length_set, h1]; exact g1
  · show (crF _ _ _ _ _ _).length ≤ 1048576
    rw [crF_len, h3]
    omega
  · show X.bs.length ≤ 1048576
    rw [h2]; exact g3
theorem appF_small {B : Sb} (A : Ac) (h : SbSmall B) : SbSmall (appF B A).1 := by
  unfold appF
  split
  · split
    · exact h
    · unfold appG
      split
      · unfold appH
        split
        · split
          · unfold appI
            split
            · exact h
            · rename_i X hX
              obtain ⟨e1, e2, e3⟩ := endsF_len _ _ _ hX
              unfold appJ
              split
              · exact h
              · split
                · exact h
                · split
                  · exact h
                  · split
                    · exact h
                    · rename_i hs
                      exact finX_small h e1 e2 e3 (by simpa using hs)
          · exact h
        · exact h
      · exact h
  · exact h
theorem applyA_small {B : Sb} (A : Ac) (h : SbSmall B) : SbSmall (applyA B A).1 := by
  unfold applyA
  split
  · exact appF_small A h
  · exact sb_small (by simp [sb0]) (by simp [sb0]) (by simp [sb0])

set_option maxRecDepth 20000 in
set_option maxHeartbeats 8000000 in
theorem specApply_any (sv cv bv ev : Value) (B : Sb) (A : Ac) (w : World) (h : SbAt 0 w sv cv bv B) (ha : AcAt 0 w ev A) (hn : SbSmall B) (_hm : AcSmall A) :
    Calls Tryz.prog 6 #[.agg #[.int .i64 B.now, sv, cv, bv], .agg #[.string A.sv, .int .i64 A.sn, .int .i64 A.cr, .int .i64 A.wa, .int .i64 A.cl, .bool A.sc, ev, .bool A.dp]] w fun e w' => SbAns w e w' (applyA B A).1 (applyA B A).2 := by
  have HK := hide h
  have HA := hide ha
  have HN := hide hn
  obtain ⟨a0, k0, rfl⟩ := h.svs.form
  obtain ⟨a1, k1, rfl⟩ := h.cps.form
  obtain ⟨a2, k2, rfl⟩ := h.bes.form
  obtain ⟨ea, ec, rfl⟩ := ha.ens.form
  clear h ha hn
  go_enter Tryz.func6, Tryz.ntmps6
  go_wp2_with fail
  generalize hWa : World.alloc (World.alloc (w.alloc _) _) _ = Wa
  have HB : Hid (Below w.heap.size w Wa) := by rw [← hWa]; exact ((one_al w _).alloc (by simp) _).alloc (by simp; omega) _
  have FP : Hid (Box Wa w.heap.size #[.int .i64 B.now, .slice a0 B.ss.length k0, .slice a1 B.cs.length k1, .slice a2 B.bs.length k2]) := by rw [← hWa]; exact ((Box.new _ _ _ _ rfl).on (one_al _ _)).on (one_al _ _)
  have FQ : Hid (Box Wa (w.heap.size + 1) #[.string A.sv, .int .i64 A.sn, .int .i64 A.cr, .int .i64 A.wa, .int .i64 A.cl, .bool A.sc, .slice ea A.es.length ec, .bool A.dp]) := by rw [← hWa]; exact (Box.new _ _ _ _ (by simp)).on (one_al _ _)
  have FR : Hid (Box Wa (w.heap.size + 1 + 1) #[.int .i64 0, .slice none 0 0, .slice none 0 0, .slice none 0 0]) := by rw [← hWa]; exact Box.new _ _ _ _ (by simp)
  clear hWa
  refine (specValid_any 0 _ _ _ B _ (HK.out.below HB.out)).mono ?_
  rintro e w1 ⟨rfl, hb1⟩
  replace HB := hide (bt HB.out hb1)
  replace FP := hide (FP.out.on hb1)
  replace FQ := hide (FQ.out.on hb1)
  replace FR := hide (FR.out.on hb1)
  clear hb1
  cases hv : validB B with
  | false =>
    have HE : Hid (applyA B A = (sb0, 1)) := by unfold Hid applyA; rw [hv]; rfl
    have r0 := FR.out.cell
    have g0 := FR.out.free
    clear hv
    go_wp2
    refine bodyPost_ret (v := .tuple #[.agg #[.int .i64 0, .slice none 0 0, .slice none 0 0, .slice none 0 0], .int .i64 1]) (by simp [results, Tryz.results6, go_sem, r0]) rfl ?_
    rw [HE.out]
    exact ⟨none, 0, none, 0, none, 0, rfl, below_sets4 HB.out (by omega) _ _ _ _, ⟨w.heap.size, w.heap.size, w.heap.size, w.heap.size, w.heap.size, w.heap.size, ⟨by have := HB.out.size; simp; omega, by have := HB.out.size; simp; omega, by have := HB.out.size; simp; omega, Or.inl (Nat.le_refl _), Or.inl (Nat.le_refl _), Or.inl (Nat.le_refl _)⟩, Or.inl ⟨_, _, rfl, rfl⟩, Or.inl ⟨_, _, rfl, rfl⟩, Or.inl ⟨_, _, rfl, rfl⟩⟩⟩
  | true =>
    have HE : Hid (applyA B A = appF B A) := by unfold Hid applyA; rw [hv]; rfl
    have HSM := hide (appF_small A HN.out)
    have p := FP.out.cell
    have q := FQ.out.cell
    go_wp2_with fail
    clear p q
    refine (l15Apply_any 0 _ _ _ _ B A _ (HK.out.below HB.out) (HA.out.below HB.out) HN.out hv).mono ?_
    intro e w2 hres
    obtain ⟨Y, c, hY⟩ : ∃ (Y : Sb) (c : Int), appF B A = (Y, c) := ⟨_, _, rfl⟩
    rw [hY] at hres HE HSM
    obtain ⟨d0, n0, d1, n1, d2, n2, rfl, hb2, hat⟩ := hres
    have HAT := hide hat
    replace HB := hide (bt HB.out hb2)
    replace FR := hide (FR.out.on hb2)
    clear hb2 hat hY hv
    go_wp2_with fail
    generalize hWb : w2.alloc _ = Wb
    have HBb : Hid (Below w.heap.size w Wb) := by rw [← hWb]; exact bt HB.out (one_al _ _)
    have FRb : Hid (Box Wb (w.heap.size + 1 + 1) #[.int .i64 0, .slice none 0 0, .slice none 0 0, .slice none 0 0]) := by rw [← hWb]; exact FR.out.on (one_al _ _)
    have HATb : Hid (SbAt 0 Wb (.slice d0 Y.ss.length n0) (.slice d1 Y.cs.length n1) (.slice d2 Y.bs.length n2) Y) := by rw [← hWb]; exact HAT.out.below (one_al _ _)
    clear hWb HAT HB FR
    refine (l12Book_any 0 _ _ _ Y _ HATb.out HSM.out).mono ?_
    rintro e w3 ⟨b0, m0, b1, m1, b2, m2, rfl, hb3, ho3⟩
    have HO := hide ho3
    have hz := HBb.out.size
    have hlt := FRb.out.lt
    replace HBb := hide (bt HBb.out hb3)
    replace FRb := hide (FRb.out.on hb3)
    have hz3 := hb3.size
    clear hb3 ho3
    have r0 := FRb.out.cell
    have g0 := FRb.out.free
    go_wp2
    refine bodyPost_ret (v := .tuple #[.agg #[.int .i64 Y.now, .slice b0 Y.ss.length m0, .slice b1 Y.cs.length m1, .slice b2 Y.bs.length m2], .int .i64 c]) (by simp [results, Tryz.results6, go_sem, r0]) rfl ?_
    rw [HE.out]
    refine ⟨_, _, _, _, _, _, rfl, below_sets4 HBb.out (by omega) _ _ _ _, ?_⟩
    have hT := fun (W : World) (k : Nat) (u : Value) => Touch.setCell (w.heap.size + 1 + 1) (w.heap.size + 1 + 1 + 1) W ⟨w.heap.size + 1 + 1, k, none⟩ u ⟨Nat.le_refl _, Nat.lt_succ_self _⟩
    exact ((((HO.out.touch (hT _ _ _) (by omega)).touch (hT _ _ _) (by omega)).touch (hT _ _ _) (by omega)).touch (hT _ _ _) (by omega)).wide (by omega) (by simp)
end Go.Proofs.YtaogpeebencnoaaGreatDoor
namespace Go.Proofs.YtaogpeebencnoaaGreatDoor
open Go.RowKit Go.Deep

/-! what an act comes to, by the order in which the program looks -/
theorem svB_pr {now : Int} {x : Sv} (h : svB now x = true) : 0 ≤ x.pr := by
  unfold svB perB at h
  simp only [Bool.and_eq_true] at h
  have h1 := h.2.2.2.2.2.2.2.2
  split at h1
  · rename_i h0
    have : x.pr = 0 := by simpa using h0
    omega
  · simp only [Bool.and_eq_true] at h1
    exact inB_lo h1.1
theorem valid_parts {B : Sb} (h : validB B = true) : (0 ≤ B.now ∧ B.now ≤ 1000000) ∧ B.ss.length ≤ 8 ∧ B.cs.length ≤ 200 ∧ B.bs.length ≤ 6 ∧ risR aheadB B.cs = true ∧ risR rSv B.ss = true ∧ B.cs.all (cpB B) = true := by
  unfold validB at h
  simp only [Bool.and_eq_true, decide_eq_true_iff] at h
  obtain ⟨h1, h2, h3, h4, ⟨-, h6⟩, -, h7, h8⟩ := h
  exact ⟨⟨inB_lo h1, inB_hi h1⟩, h2, h3, h4, h8, h6, h7⟩
theorem cpB_nu {B : Sb} {c : Cp} (h : cpB B c = true) : ∃ x, svF B.ss c.se = some x ∧ 1 ≤ c.nu ∧ c.nu < x.nx := by
  unfold cpB at h
  split at h
  · cases h
  · rename_i x hx
    unfold cpT at h
    simp only [Bool.and_eq_true] at h
    have a := inB_lo h.1
    have b := inB_hi h.1
    exact ⟨x, hx, a, by omega⟩
theorem valid_nu {B : Sb} (h : validB B = true) : ∀ i (hi : i < B.cs.length), 1 ≤ B.cs[i].nu := fun i hi => by
  obtain ⟨x, -, h1, -⟩ := cpB_nu (List.all_eq_true.1 (valid_parts h).2.2.2.2.2.2 _ (List.getElem_mem hi))
  exact h1
theorem valid_lt {B : Sb} (h : validB B = true) {s : ByteArray} {x : Sv} (hx : svF B.ss s = some x) : ∀ d ∈ B.cs, d.se = s → d.nu < x.nx := fun d hd hs => by
  obtain ⟨x', h0, -, h2⟩ := cpB_nu (List.all_eq_true.1 (valid_parts h).2.2.2.2.2.2 _ hd)
  rw [hs, hx] at h0
  cases h0
  exact h2
theorem Sm.lt {L M : List Cp} (h : Sm L M) {s : ByteArray} {n : Int} (hL : ∀ d ∈ L, d.se = s → d.nu < n) : ∀ d ∈ M, d.se = s → d.nu < n := fun d hd hs => by
  obtain ⟨c, hc, h1, h2⟩ := h.mem hd
  have := hL c hc (h1.trans hs)
  omega
theorem Sm.nu {L M : List Cp} (h : Sm L M) (hL : ∀ i (hi : i < L.length), 1 ≤ L[i].nu) : ∀ i (hi : i < M.length), 1 ≤ M[i].nu := fun i hi => by
  have hl := h.len
  rw [(h.key i hi (by omega)).2]
  exact hL i (by omega)
theorem scS_ve (A : Ac) (x : Sv) (v : Int) : scS A { x with ve := v } = { scS A x with ve := v } := by unfold scS; split <;> rfl
theorem scS_nm (A : Ac) (x : Sv) : (scS A x).nm = x.nm := by unfold scS; split <;> rfl
theorem scS_im (A : Ac) (x : Sv) : (scS A x).im = x.im := by unfold scS; split <;> rfl
theorem scS_gn (A : Ac) (x : Sv) : (scS A x).gn = x.gn := by unfold scS; split <;> rfl
theorem scS_nx (A : Ac) (x : Sv) : (scS A x).nx = x.nx := by unfold scS; split <;> rfl
theorem six3_sc (A : Ac) (x : Sv) : six3 A (scS A x) = six3 A x := by unfold six3 scS; split <;> rfl
theorem appJ_six {B X : Sb} {A : Ac} {x : Sv} (h : six1 A x (ctL B.cs A.sv x.im) = true ∨ six2 A (scS A x) (ctL X.cs A.sv x.im).li = true ∨ six3 A (scS A x) = true) : appJ B X A x = (B, 6) := by
  unfold appJ
  cases h1 : six1 A x (ctL B.cs A.sv x.im) with
  | true => rfl
  | false =>
    cases h2 : six2 A (scS A x) (ctL X.cs A.sv x.im).li with
    | true => rfl
    | false =>
      cases h3 : six3 A (scS A x) with
      | true => rfl
      | false => rw [h1, h2, h3] at h; simp at h
theorem appJ_sev {B X : Sb} {A : Ac} {x : Sv} (h1 : six1 A x (ctL B.cs A.sv x.im) = false) (h2 : six2 A (scS A x) (ctL X.cs A.sv x.im).li = false) (h3 : six3 A (scS A x) = false) (h4 : sev B A (scS A x) = true) : appJ B X A x = (B, 7) := by
  unfold appJ
  rw [h1, h2, h3, h4]
  rfl
theorem appJ_fin {B X : Sb} {A : Ac} {x : Sv} (h1 : six1 A x (ctL B.cs A.sv x.im) = false) (h2 : six2 A (scS A x) (ctL X.cs A.sv x.im).li = false) (h3 : six3 A (scS A x) = false) (h4 : sev B A (scS A x) = false) : appJ B X A x = (finX B X A (scS A x), 0) := by
  unfold appJ
  rw [h1, h2, h3, h4]
  rfl
theorem dp_parts {A : Ac} (h : actB A = true) (hd : A.dp = true) : A.cr = 0 ∧ A.sc = false ∧ A.es = [] := by
  unfold actB dpB at h
  simp only [Bool.and_eq_true] at h
  have h1 := h.2.2.2.2
  rw [hd] at h1
  simp at h1
  exact ⟨h1.1, h1.2.1, h1.2.2⟩
theorem six1_end {B X : Sb} {A : Ac} {x y : Sv} {v : Int} (h : actB A = true) (he : endsF v A.sv A.es B = some X) (hg : y.gn = x.gn) {n : Ct} (hl : n.li = (ctL X.cs A.sv x.im).li + A.cr) (hn : n.en = (ctL X.cs A.sv x.im).en) : six1 A y n = six1 A x (ctL B.cs A.sv x.im) := by
  unfold six1
  cases hd : A.dp with
  | false => rfl
  | true =>
    obtain ⟨h1, -, h3⟩ := dp_parts h hd
    rw [h3, endsF] at he
    cases he
    rw [hl, hn, hg, h1]
    simp
theorem fits_sev {B : Sb} {A : Ac} {z : Sv} {n : Nat} {nx : Int} (hn : (n : Int) = (B.cs.length : Int) + A.cr) (hx : nx = z.nx + A.cr) : (decide ((n : Int) ≤ 200) && (decide (nx ≤ 1000000) && decide (B.now + 1 ≤ 1000000))) = !sev B A z := by
  unfold sev
  rw [hn, hx, Bool.eq_iff_iff]
  simp only [Bool.and_eq_true, decide_eq_true_iff, Bool.not_eq_true', Bool.or_eq_false_iff, decide_eq_false_iff_not]
  omega
end Go.Proofs.YtaogpeebencnoaaGreatDoor
namespace Go.Proofs.YtaogpeebencnoaaGreatDoor
open Go.RowKit Go.Deep

/-- what an act at work leaves -/
def RunPost (w0 w : World) (lo γ s0 s1 e0 e1 pl : Nat) (bv ev : Value) (B : Sb) (A : Ac) (x : Sv) (e : Ending) (w' : World) : Prop :=
  Touch lo (γ + 1) w w' ∧ ((∃ c, c ≠ 0 ∧ appI B A x = (B, c) ∧ e = .panicked [{ v := haltV c, recovered := false }]) ∨
    (∃ (Y : Sb) (sv cv : Value) (c0 c1 : Nat), appI B A x = (Y, 0) ∧ (c1 ≤ γ ∨ w.heap.size ≤ c0) ∧ e = .returned (.tuple #[]) ∧ Wk w0 w' lo γ s0 s1 c0 c1 e0 e1 #[.int .i64 Y.now, sv, cv, bv, .string A.sv, .int .i64 A.sn, .int .i64 A.cr, .int .i64 A.wa, .int .i64 A.cl, .bool A.sc, ev, .bool A.dp, .int .i64 pl] sv cv bv Y.ss Y.cs Y.bs))
section
variable (w0 w : World) (lo γ s0 s1 c0 c1 e0 e1 sb so sc pl : Nat) (cv bv ev : Value) (B : Sb) (A : Ac) (x : Sv)

set_option maxRecDepth 100000 in
set_option maxHeartbeats 16000000 in
theorem run_any (hpl : pl < B.ss.length) (hplI : svI B.ss A.sv = pl) (hx : B.ss[pl] = x) (hxn : x.nm = A.sv) (hsf : svF B.ss A.sv = some x) (hv : validB B = true) (hab : actB A = true) (hex : exB B A = true)
    (h : Wk w0 w lo γ s0 s1 c0 c1 e0 e1 #[.int .i64 B.now, .slice (some ⟨sb, so, none⟩) B.ss.length sc, cv, bv, .string A.sv, .int .i64 A.sn, .int .i64 A.cr, .int .i64 A.wa, .int .i64 A.cl, .bool A.sc, ev, .bool A.dp, .int .i64 pl] (.slice (some ⟨sb, so, none⟩) B.ss.length sc) cv bv B.ss B.cs B.bs) (hc1 : c1 ≤ γ) (ha : AcAt 0 w0 ev A) :
    Calls Tryz.prog 82 #[.pointer (some ⟨γ, 0, none⟩)] w fun e w' => RunPost w0 w lo γ s0 s1 e0 e1 pl bv ev B A x e w' := by
  obtain ⟨⟨hn0, hn1⟩, hl1, hl2, hl3, hris, -, -⟩ := valid_parts hv
  have HV := hide hv
  have HAB := hide hab
  have HEX := hide hex
  have HX := hide hx
  have HXN := hide hxn
  have HSF := hide hsf
  have HA := hide ha
  have HRI := hide hris
  have HNU := hide (valid_nu hv)
  have HBD := hide (svB_wd (valid_sv hv hsf))
  have HYB := hide (y_bd hab (valid_sv hv hsf))
  have HPR := hide (svB_pr (valid_sv hv hsf))
  have HLT := hide (valid_lt hv hsf)
  have he : A.es.length ≤ 200 := by
    unfold actB at hab
    simp only [Bool.and_eq_true, decide_eq_true_iff] at hab
    exact hab.2.1
  have HW := hide h
  obtain ⟨hk1, ht1⟩ := h.setB (k := 0) (.int .i64 (B.now + 1)) (by simp)
  have HW1 := hide hk1
  have HT1 := hide ht1
  have z0 := h.bx.cell 0
  have zf := h.bx.free
  simp at z0
  have hwr : IntKind.i64.wrap (B.now + 1) = B.now + 1 := by rw [IntWalk.i64_left]; unfold wrap64; omega
  clear h ha hx hxn hsf hv hab hex hris hk1 ht1
  go_enter Tryz.func82, Tryz.ntmps82
  go_wp2_with fail
  clear z0 zf HW
  generalize w.setCell _ _ = W1 at *
  refine Code.wp_mono NoPanic.imp ?_
  refine wp_region_E (S := HeldC γ #[.int .i64 (B.now + 1), .slice (some ⟨sb, so, none⟩) B.ss.length sc, cv, bv, .string A.sv, .int .i64 A.sn, .int .i64 A.cr, .int .i64 A.wa, .int .i64 A.cl, .bool A.sc, ev, .bool A.dp, .int .i64 pl]) 9 (by kernel_rfl) ⟨HW1.out.bx.cell, trivial⟩ (fun hHeld => ?_)
  refine wpAnyE_take [1, 7, 8, 9] (i := 0) (v := .pointer (some ⟨γ, 0, none⟩)) rfl (by kernel_rfl) (by kernel_rfl) (by kernel_rfl) (by kernel_rfl) (fun _ _ _ h => h) (Or.inl ⟨by rfl, fun W hW => by obtain ⟨h1, h3⟩ := hW; go_simp⟩) hHeld ?_
  try simp only [Act.put, List.getElem_toArray, List.getElem_cons_zero, List.setIfInBounds_toArray, List.set_cons_zero, List.set_cons_succ]
  refine wpAnyE_take [3, 4, 5, 6, 9] (i := 2) (v := .pointer (some ⟨γ, 0, none⟩)) rfl (by kernel_rfl) (by kernel_rfl) (by kernel_rfl) (by kernel_rfl) (fun _ _ _ h => h) (Or.inl ⟨by rfl, fun W hW => by obtain ⟨h1, h3⟩ := hW; go_simp⟩) hHeld ?_
  try simp only [Act.put, List.getElem_toArray, List.getElem_cons_succ, List.getElem_cons_zero, List.setIfInBounds_toArray, List.set_cons_zero, List.set_cons_succ]
  refine wpAnyE_take [4, 5, 6, 9] (i := 3) (v := .pointer (some ⟨γ, 0, none⟩)) rfl (by kernel_rfl) (by kernel_rfl) (by kernel_rfl) (by kernel_rfl) (fun _ _ _ h => h) (Or.inl ⟨by rfl, fun W hW => by obtain ⟨h1, h3⟩ := hW; go_simp⟩) hHeld ?_
  try simp only [Act.put, List.getElem_toArray, List.getElem_cons_succ, List.getElem_cons_zero, List.setIfInBounds_toArray, List.set_cons_zero, List.set_cons_succ]
  refine wpAnyE_take [5, 6, 9] (i := 4) (v := .pointer (some ⟨γ, 0, none⟩)) rfl (by kernel_rfl) (by kernel_rfl) (by kernel_rfl) (by kernel_rfl) (fun _ _ _ h => h) (Or.inl ⟨by rfl, fun W hW => by obtain ⟨h1, h3⟩ := hW; go_simp⟩) hHeld ?_
  try simp only [Act.put, List.getElem_toArray, List.getElem_cons_succ, List.getElem_cons_zero, List.setIfInBounds_toArray, List.set_cons_zero, List.set_cons_succ]
  refine wpAnyE_take [6, 9] (i := 5) (v := .pointer (some ⟨γ, 0, none⟩)) rfl (by kernel_rfl) (by kernel_rfl) (by kernel_rfl) (by kernel_rfl) (fun _ _ _ h => h) (Or.inl ⟨by rfl, fun W hW => by obtain ⟨h1, h3⟩ := hW; go_simp⟩) hHeld ?_
  try simp only [Act.put, List.getElem_toArray, List.getElem_cons_succ, List.getElem_cons_zero, List.setIfInBounds_toArray, List.set_cons_zero, List.set_cons_succ]
  refine wpAnyE_take [9] (i := 6) (v := .int .i64 (B.now + 1)) rfl (by kernel_rfl) (by kernel_rfl) (by kernel_rfl) (by kernel_rfl) (fun _ _ _ h => h) (Or.inl ⟨by rfl, fun W hW => by obtain ⟨h1, h3⟩ := hW; go_simp⟩) hHeld ?_
  try simp only [Act.put, List.getElem_toArray, List.getElem_cons_succ, List.getElem_cons_zero, List.setIfInBounds_toArray, List.set_cons_zero, List.set_cons_succ]
  refine wpAnyE_one (i := 1) (by kernel_rfl) rfl (fun K hK => ?_)
  go_simp
  refine (wkService_any γ sb so sc B.ss.length pl _ (by rw [hHeld.1 1]; rfl) (by rw [hHeld.1 12]; rfl) hpl).mono ?_
  rintro e w2 ⟨rfl, hb2⟩
  have hb2' : Below W1.heap.size W1 w2 := bt ((Below.refl _ _).drew) hb2
  refine hK.out _ _ (fun _ => ⟨(HW1.out.bx.on hb2').cell, trivial⟩) (fun hHx => ?_)
  clear hHeld
  have hHeld := hHx (by decide)
  clear hK K hHx
  try simp only [Act.put, List.getElem_toArray, List.getElem_cons_succ, List.getElem_cons_zero, List.setIfInBounds_toArray, List.set_cons_zero, List.set_cons_succ]
  refine wpAnyE_take [8, 9] (i := 7) (v := .pointer (some ⟨sb, so + pl * 13, none⟩)) rfl (by kernel_rfl) (by kernel_rfl) (by kernel_rfl) (by kernel_rfl) (fun _ _ _ h => h) (Or.inl ⟨by rfl, fun W hW => by obtain ⟨h1, h3⟩ := hW; go_simp⟩) hHeld ?_
  try simp only [Act.put, List.getElem_toArray, List.getElem_cons_succ, List.getElem_cons_zero, List.setIfInBounds_toArray, List.set_cons_zero, List.set_cons_succ]
  refine wpAnyE_take [9] (i := 8) (v := .pointer (some ⟨sb, so + pl * 13 + 1, none⟩)) rfl (by kernel_rfl) (by kernel_rfl) (by kernel_rfl) (by kernel_rfl) (fun _ _ _ h => h) (Or.inl ⟨by rfl, fun W hW => by obtain ⟨h1, h3⟩ := hW; go_simp⟩) hHeld ?_
  try simp only [Act.put, List.getElem_toArray, List.getElem_cons_succ, List.getElem_cons_zero, List.setIfInBounds_toArray, List.set_cons_zero, List.set_cons_succ]
  have HW2 := hide (HW1.out.on hb2')
  have HT2 := hide (HT1.out.trans (Touch.below hb2'))
  obtain ⟨-, -, hs3, hfz, hs5⟩ := HW2.out.so.oneAt hpl
  have d1 := hs5.c1
  obtain ⟨hk3, ht3⟩ := HW2.out.turnN hpl { x with ve := B.now + 1 } (W' := w2.setCell ⟨sb, so + pl * 13 + 1, none⟩ (.int .i64 (B.now + 1))) (fun _ _ st => by rw [HX.out] at st; exact st.s1 (B.now + 1)) (by rw [HX.out])
  have HW3 := hide hk3
  have HT3 := hide (HT2.out.trans ht3)
  clear hk3 ht3 hs5
  refine wpAnyE_one (i := 9) (by kernel_rfl) rfl (fun K hK => ?_)
  go_simp
  refine hK.out _ _ (fun h => absurd rfl h) (fun _ => ?_)
  clear hK K hHeld d1 hfz
  refine wpAnyE_done (by kernel_rfl) ?_ _
  refine NoPanic.normal ?_
  clear HW1 HW2 HT1 HT2 hb2 hb2'
  generalize w2.setCell _ _ = W3 at *
  obtain ⟨x1, hx1⟩ : ∃ z : Sv, z = { x with ve := B.now + 1 } := ⟨_, rfl⟩
  rw [← hx1] at HW3
  have HX1 := hide hx1
  obtain ⟨S1, hS1⟩ : ∃ l, l = B.ss.set pl x1 := ⟨_, rfl⟩
  rw [← hS1] at HW3
  have hS1l : S1.length = B.ss.length := by rw [hS1, List.length_set]
  have hpl1 : pl < S1.length := by omega
  have hS1g : S1[pl] = x1 := by simp [hS1]
  have HS1 := hide hS1
  have HG1 := hide hS1g
  have h3 := HW3.out
  rw [← hS1l] at h3
  have HK3 := hide h3
  have hx1f : x1.gn = x.gn ∧ x1.wa = x.wa ∧ x1.dn = x.dn := by rw [hx1]; exact ⟨rfl, rfl, rfl⟩
  have HXF := hide hx1f
  clear hx1 hS1 hS1g h3 HW3 hx1f
  go_wp2_with fail
  refine (end_any w0 W3 lo γ s0 s1 c0 c1 e0 e1 sb so sc pl cv bv ev A B x x1 (B.now + 1) S1 B.bs hpl1 HG1.out HXF.out HK3.out hc1 HA.out HSF.out HEX.out HRI.out HNU.out hl2 he HBD.out).mono ?_
  rintro e w4 ⟨ht4, ⟨hen, rfl⟩ | ⟨X, hen, rfl, hk4⟩⟩
  · exact ⟨rfl, HT3.out.trans ht4, Or.inl ⟨5, by decide, by unfold appI; rw [hen], rfl⟩⟩
  have HAI : Hid (appI B A x = appJ B X A x) := by unfold Hid appI; rw [hen]
  have HEN := hide hen
  have HSM := hide (endsF_sm _ _ _ hen).1
  obtain ⟨-, hXb, hXl⟩ := endsF_len _ _ _ hen
  have HT4 := hide (HT3.out.trans ht4)
  have HK4 := hide hk4
  have HXB := hide hXb
  clear ht4 hen hk4 HK3 HT3 hXb
  go_wp2_with fail
  refine (scale_any w0 w4 lo γ s0 s1 c0 c1 e0 e1 sb so sc pl cv bv ev A x1 (B.now + 1) S1 X.cs B.bs hpl1 HG1.out (by rw [HX1.out]; exact HPR.out) HK4.out).mono ?_
  rintro e w5 ⟨ht5, ⟨h6, rfl⟩ | ⟨h6, rfl, hk5⟩⟩
  · have h6' : six3 A (scS A x) = true := by rw [six3_sc, ← h6, HX1.out]; rfl
    exact ⟨rfl, HT4.out.trans ht5, Or.inl ⟨6, by decide, HAI.out.trans (appJ_six (Or.inr (Or.inr h6'))), rfl⟩⟩
  have H63 : Hid (six3 A (scS A x) = false) := by unfold Hid; rw [six3_sc, ← h6, HX1.out]; rfl
  have HT5 := hide (HT4.out.trans ht5)
  obtain ⟨y2, hy2⟩ : ∃ z : Sv, z = { scS A x with ve := B.now + 1 } := ⟨_, rfl⟩
  have hsc : scS A x1 = y2 := by rw [hy2, HX1.out, scS_ve]
  rw [hsc] at hk5
  obtain ⟨S2, hS2⟩ : ∃ l, l = S1.set pl y2 := ⟨_, rfl⟩
  rw [← hS2] at hk5
  have hS2l : S2.length = S1.length := by rw [hS2, List.length_set]
  have hpl2 : pl < S2.length := by omega
  have HG2 : Hid (S2[pl] = y2) := by unfold Hid; simp [hS2]
  rw [← hS2l] at hk5
  have HK5 := hide hk5
  have HS2 := hide hS2
  have HY2 : Hid (y2.nm = A.sv ∧ y2.im = x.im ∧ y2.gn = x.gn ∧ y2.nx = x.nx ∧ y2.wa = (scS A x).wa ∧ y2.ov = (scS A x).ov) := by
    unfold Hid; rw [hy2]; exact ⟨(scS_nm A x).trans HXN.out, scS_im A x, scS_gn A x, scS_nx A x, rfl, rfl⟩
  have HYE := hide hy2
  clear ht5 hk5 hsc hS2 hy2 h6 HK4 HT4
  go_wp2_with fail
  refine (create_any w0 w5 lo γ s0 s1 c0 c1 e0 e1 sb so sc pl cv bv ev A y2 (B.now + 1) S2 X.cs B.bs hpl2 HG2.out HYB.out.2.2.2 (by rw [HY2.out.2.2.2.1, ← scS_nx A x]; exact HYB.out.2.2.1) (by rw [HY2.out.2.2.2.2.1, HY2.out.2.2.2.2.2]; exact ⟨HYB.out.1, HYB.out.2.1⟩) HK5.out hc1 (HSM.out.ris HRI.out) (HSM.out.nu HNU.out) (by omega) (HSM.out.lt (by rw [HY2.out.1, HY2.out.2.2.2.1]; exact HLT.out))).mono ?_
  rintro e w6 ⟨ht6, ⟨h6, rfl⟩ | ⟨h6, rfl, hcre⟩⟩
  · have h6' : six2 A (scS A x) (ctL X.cs A.sv x.im).li = true := by rw [← h6, HY2.out.1, HY2.out.2.1, HYE.out]; rfl
    exact ⟨rfl, HT5.out.trans ht6, Or.inl ⟨6, by decide, HAI.out.trans (appJ_six (Or.inr (Or.inl h6'))), rfl⟩⟩
  have H62 : Hid (six2 A (scS A x) (ctL X.cs A.sv x.im).li = false) := by unfold Hid; rw [← h6, HY2.out.1, HY2.out.2.1, HYE.out]; rfl
  have HT6 := hide (HT5.out.trans ht6)
  obtain ⟨cw, c0', c1', hcc, hk6, hr6, hnu6, hli, hen6⟩ := hcre
  obtain ⟨y3, hy3⟩ : ∃ z : Sv, z = { y2 with nx := y2.nx + A.cr } := ⟨_, rfl⟩
  obtain ⟨S3, hS3⟩ : ∃ l, l = S2.set pl y3 := ⟨_, rfl⟩
  rw [← hy3, ← hS3] at hk6
  rw [HY2.out.1, HY2.out.2.1] at hk6 hli hen6
  simp only [HY2.out.1, HY2.out.2.1] at hr6 hnu6
  obtain ⟨L3, hL3⟩ : ∃ l, l = crF A.sv (B.now + 1) x.im A.cr.toNat y2.nx X.cs := ⟨_, rfl⟩
  have hL3l : (L3.length : Int) = (B.cs.length : Int) + A.cr := by
    have := HYB.out.2.2.2
    rw [hL3, crF_len]; omega
  simp only [← hL3] at hk6 hr6 hnu6 hli hen6
  have hS3l : S3.length = S2.length := by rw [hS3, List.length_set]
  have hpl3 : pl < S3.length := by omega
  have HG3 : Hid (S3[pl] = y3) := by unfold Hid; simp [hS3]
  have HY3 : Hid (y3.nm = A.sv ∧ y3.im = x.im ∧ y3.gn = x.gn ∧ y3.nx = (scS A x).nx + A.cr) := by
    unfold Hid; rw [hy3]; exact ⟨HY2.out.1, HY2.out.2.1, HY2.out.2.2.1, by rw [scS_nx, ← HY2.out.2.2.2.1]⟩
  have HSS : Hid (S3 = B.ss.set pl { scS A x with nx := (scS A x).nx + A.cr, ve := B.now + 1 }) := by
    unfold Hid
    rw [hS3, HS2.out, HS1.out, List.set_set, List.set_set, hy3, HYE.out]
  have HL3 := hide hL3
  have HK6 := hide hk6
  have HR6 := hide hr6
  have HN6 : Hid (∀ i (h : i < L3.length), 1 ≤ L3[i].nu) := fun i h => by subst hL3; exact hnu6 i h
  have HLI : Hid ((ctL L3 y3.nm y3.im).li = (ctL X.cs A.sv x.im).li + A.cr) := by unfold Hid; rw [HY3.out.1, HY3.out.2.1]; exact hli
  have HEN6 : Hid ((ctL L3 y3.nm y3.im).en = (ctL X.cs A.sv x.im).en) := by unfold Hid; rw [HY3.out.1, HY3.out.2.1]; exact hen6
  have hw5 := HT5.out.size
  clear ht6 h6 hk6 hr6 hnu6 hli hen6 hL3 hy3 hS3 HK5 HT5
  go_wp2_with fail
  refine (mayDrop_any w0 w6 lo γ s0 s1 c0' c1' e0 e1 sb so sc pl S2.length cw bv ev A y3 (B.now + 1) S3 L3 B.bs hpl3 hpl2 HG3.out HK6.out HR6.out HN6.out (by have := HYB.out.2.2.2; omega)).mono ?_
  have HSX := hide (six1_end (y := y3) HAB.out HEN.out HY3.out.2.2.1 HLI.out HEN6.out)
  rintro e w7 ⟨hb7, ⟨h6, rfl⟩ | ⟨h6, rfl⟩⟩
  · exact ⟨rfl, HT6.out.trans (Touch.below hb7), Or.inl ⟨6, by decide, HAI.out.trans (appJ_six (Or.inl (HSX.out ▸ h6))), rfl⟩⟩
  have H61 : Hid (six1 A x (ctL B.cs A.sv x.im) = false) := by unfold Hid; rw [← HSX.out]; exact h6
  have HT7 := hide (HT6.out.trans (Touch.below hb7))
  have HK7 := hide (HK6.out.on hb7)
  clear hb7 h6 HK6 HT6
  go_wp2_with fail
  refine (mustFit_any w0 w7 lo γ s0 s1 c0' c1' e0 e1 sb so sc pl S2.length cw bv ev A y3 (B.now + 1) S3 L3 B.bs hpl3 hpl2 HG3.out HK7.out).mono ?_
  have HFS := hide (fits_sev (B := B) (A := A) (z := scS A x) (n := L3.length) (nx := y3.nx) hL3l HY3.out.2.2.2)
  rintro e w8 ⟨hb8, ⟨h7, rfl⟩ | ⟨h7, rfl⟩⟩
  · have h7' : sev B A (scS A x) = true := by rw [HFS.out] at h7; simpa using h7
    exact ⟨rfl, HT7.out.trans (Touch.below hb8), Or.inl ⟨7, by decide, HAI.out.trans (appJ_sev H61.out H62.out H63.out h7'), rfl⟩⟩
  have H7 : Hid (sev B A (scS A x) = false) := by unfold Hid; rw [HFS.out] at h7; simpa using h7
  have HT8 := hide (HT7.out.trans (Touch.below hb8))
  have hk8 := HK7.out.on hb8
  rw [← hS3l] at hk8
  have HK8 := hide hk8
  clear hb8 h7 HK7 HT7 hk8
  go_wp2_with fail
  refine (drop_any w0 w8 lo γ s0 s1 c0' c1' e0 e1 sb so sc pl cw bv ev A (B.now + 1) S3 L3 B.bs hpl3 (by omega) HK8.out).mono ?_
  rintro e w9 ⟨rfl, ht9, hk9⟩
  have HFIN : Hid (appI B A x = (⟨B.now + 1, if A.dp then S3.eraseIdx pl else S3, L3, B.bs⟩, 0)) := by
    unfold Hid
    rw [HAI.out, appJ_fin H61.out H62.out H63.out H7.out, HL3.out, HSS.out, HY2.out.2.2.2.1]
    unfold finX
    rw [hplI, scS_im, scS_nx, HXB.out, (endsF_len _ _ _ HEN.out).1]
  have HT9 := hide (HT8.out.trans ht9)
  have HK9 := hide hk9
  clear ht9 hk9
  go_wp2
  go_end0
  exact ⟨HT9.out, Or.inr ⟨_, _, _, c0', c1', HFIN.out, by omega, rfl, HK9.out⟩⟩
end
end Go.Proofs.YtaogpeebencnoaaGreatDoor
namespace Go.Proofs.YtaogpeebencnoaaGreatDoor
open Go.RowKit Go.Deep

/-- what an act that was done whole leaves -/
def WholePost (w : World) (lo : Nat) (B : Sb) (A : Ac) (x : Sv) (e : Ending) (w' : World) : Prop :=
  Below lo w w' ∧ ((∃ c, c ≠ 0 ∧ appI B A x = (B, c) ∧ e = .returned (.tuple #[.agg #[.int .i64 0, .slice none 0 0, .slice none 0 0, .slice none 0 0], .iface 122 (.agg #[.int .i64 c])])) ∨
    (∃ (Y : Sb) (sv cv bv : Value), appI B A x = (Y, 0) ∧ e = .returned (.tuple #[.agg #[.int .i64 Y.now, sv, cv, bv], .nilIface]) ∧ SbOwn lo w'.heap.size w' sv cv bv Y))
section
variable (w0 w : World) (lo γ s0 s1 c0 c1 e0 e1 sb so sc pl : Nat) (cv bv ev : Value) (B : Sb) (A : Ac) (x : Sv)

set_option maxRecDepth 100000 in
set_option maxHeartbeats 16000000 in
theorem whole_any (hpl : pl < B.ss.length) (hplI : svI B.ss A.sv = pl) (hx : B.ss[pl] = x) (hxn : x.nm = A.sv) (hsf : svF B.ss A.sv = some x) (hv : validB B = true) (hab : actB A = true) (hex : exB B A = true)
    (h : Wk w0 w lo γ s0 s1 c0 c1 e0 e1 #[.int .i64 B.now, .slice (some ⟨sb, so, none⟩) B.ss.length sc, cv, bv, .string A.sv, .int .i64 A.sn, .int .i64 A.cr, .int .i64 A.wa, .int .i64 A.cl, .bool A.sc, ev, .bool A.dp, .int .i64 pl] (.slice (some ⟨sb, so, none⟩) B.ss.length sc) cv bv B.ss B.cs B.bs) (hc1 : c1 ≤ γ) (ha : AcAt 0 w0 ev A) :
    Calls Tryz.prog 63 #[.pointer (some ⟨γ, 0, none⟩)] w fun e w' => WholePost w lo B A x e w' := by
  have hmf : ∀ (fn : Fn) (first cap : Array Value) (w : World), (Instr.makeFunc fn first cap).run Tryz.prog w = .ok (.func fn first cap) w := fun _ _ _ _ => rfl
  have HW := hide h
  have hγ := h.bx.lt
  have haz := h.az
  have HR := hide (fun (W : World) (hk : Wk w0 W lo γ s0 s1 c0 c1 e0 e1 #[.int .i64 B.now, .slice (some ⟨sb, so, none⟩) B.ss.length sc, cv, bv, .string A.sv, .int .i64 A.sn, .int .i64 A.cr, .int .i64 A.wa, .int .i64 A.cl, .bool A.sc, ev, .bool A.dp, .int .i64 pl] (.slice (some ⟨sb, so, none⟩) B.ss.length sc) cv bv B.ss B.cs B.bs) => run_any w0 W lo γ s0 s1 c0 c1 e0 e1 sb so sc pl cv bv ev B A x hpl hplI hx hxn hsf hv hab hex hk hc1 ha)
  clear h ha hx hxn hsf hv hab hex hplI
  go_enter_defers Tryz.func63, Tryz.ntmps63
  go_wp2_with fail
  generalize hWa : World.alloc (w.alloc _) _ = Wa
  have HB : Hid (Below w.heap.size w Wa) := by unfold Hid; rw [← hWa]; exact (one_al w _).alloc (by simp) _
  have B1 : Hid (Box Wa w.heap.size #[.int .i64 0, .slice none 0 0, .slice none 0 0, .slice none 0 0]) := by unfold Hid; rw [← hWa]; exact (Box.new _ _ _ _ rfl).on (one_al _ _)
  have B2 : Hid (Box Wa (w.heap.size + 1) #[.nilIface]) := by unfold Hid; rw [← hWa]; exact Box.new _ _ _ _ (by simp)
  clear hWa
  refine (HR.out Wa (HW.out.on HB.out)).mono ?_
  rintro e w1 ⟨ht1, ⟨c, hc0, hap, rfl⟩ | ⟨Y, sv', cv', c0', c1', hap, hcc, rfl, hk1⟩⟩
  · have hbl : Below lo w w1 := (HB.out.mono (by omega)).trans (ht1.under (by have := HB.out.size; omega))
    have K1 := B1.out.touch ht1 (by omega)
    have K2 := B2.out.touch ht1 (by omega)
    go_wp2_with fail
    refine leaves_cons (f := 81) (args := #[.pointer (some ⟨w.heap.size, 0, none⟩), .pointer (some ⟨w.heap.size + 1, 0, none⟩)]) (by simp) (by simp [go_sem]) ?_
    refine (catch_halt w.heap.size (w.heap.size + 1) c [] _ K1 K2 (by omega)).mono ?_
    rintro e u' w2 ⟨rfl, rfl, hb2, k1, k2⟩
    have q0 := k1.cell 0
    have q1 := k1.cell 1
    have q2 := k1.cell 2
    have q3 := k1.cell 3
    have q4 := k2.cell 0
    simp at q0 q1 q2 q3 q4
    have HF : Hid (WholePost w lo B A x (.returned (.tuple #[.agg #[.int .i64 0, .slice none 0 0, .slice none 0 0, .slice none 0 0], .iface 122 (.agg #[.int .i64 c])])) w2) :=
      ⟨hbl.trans (hb2.mono (by omega)), Or.inl ⟨c, hc0, hap, rfl⟩⟩
    clear hbl hb2 K1 K2 k1 k2 ht1 HR HW B1 B2 HB
    simp [Leaves, settle, results, Tryz.results63, go_sem, q0, q1, q2, q3, q4]
    exact HF.out
  · have hsz1 := ht1.size
    have hbl : Below lo w w1 := (HB.out.mono (by omega)).trans (ht1.under (by have := HB.out.size; omega))
    have K1 := hide (B1.out.touch ht1 (by omega))
    have K2 := hide (B2.out.touch ht1 (by omega))
    have HK := hide hk1
    obtain ⟨ya, yn, yc, rfl⟩ : ∃ a n k, sv' = .slice a n k := by obtain ⟨a, k, e⟩ := hk1.so.form; exact ⟨a, _, k, e⟩
    obtain ⟨za, zn, zc, rfl⟩ : ∃ a n k, cv' = .slice a n k := by obtain ⟨a, k, e⟩ := hk1.co.form; exact ⟨a, _, k, e⟩
    obtain ⟨ba, bn, bc, rfl⟩ : ∃ a n k, bv = .slice a n k := by obtain ⟨a, k, e⟩ := hk1.eo.form; exact ⟨a, _, k, e⟩
    have z0 := hk1.bx.cell 0
    have z1 := hk1.bx.cell 1
    have z2 := hk1.bx.cell 2
    have z3 := hk1.bx.cell 3
    have b10 := K1.out.cell 0
    have b11 := K1.out.cell 1
    have b12 := K1.out.cell 2
    have b13 := K1.out.cell 3
    have b1f := K1.out.free
    have b20 := K2.out.cell 0
    have b2f := K2.out.free
    simp at z0 z1 z2 z3 b10 b11 b12 b13 b20
    have hne : w.heap.size + 1 ≠ w.heap.size := by omega
    have hne2 : w.heap.size ≠ w.heap.size + 1 := by omega
    have HBL := hide hbl
    have hWa : w.heap.size + 1 + 1 ≤ Wa.heap.size := B2.out.lt
    clear hk1 ht1 hbl HR HW
    go_wp2_with fail
    clear z0 z1 z2 z3 b10 b11 b12 b13 b1f b20 b2f
    have E1 := hide (((((K1.out.set (k := 0) (.int .i64 Y.now) (by simp)).set (k := 1) (.slice ya yn yc) (by simp)).set (k := 2) (.slice za zn zc) (by simp)).set (k := 3) (.slice ba bn bc) (by simp)).setFar (p := ⟨w.heap.size + 1, 0, none⟩) hne .nilIface)
    have E2 := hide ((((((K2.out.setFar (p := ⟨w.heap.size, 0, none⟩) hne2 (.int .i64 Y.now)).setFar (p := ⟨w.heap.size, 1, none⟩) hne2 (.slice ya yn yc)).setFar (p := ⟨w.heap.size, 2, none⟩) hne2 (.slice za zn zc)).setFar (p := ⟨w.heap.size, 3, none⟩) hne2 (.slice ba bn bc)).set (k := 0) .nilIface (by simp)))
    have hT := fun (W : World) (b k : Nat) (u : Value) (h1 : w.heap.size ≤ b) (h2 : b < w.heap.size + 1 + 1) => Touch.setCell w.heap.size (w.heap.size + 1 + 1) W ⟨b, k, none⟩ u ⟨h1, h2⟩
    have ET : Hid (Touch w.heap.size (w.heap.size + 1 + 1) w1 (((((w1.setCell ⟨w.heap.size, 0, none⟩ (.int .i64 Y.now)).setCell ⟨w.heap.size, 1, none⟩ (.slice ya yn yc)).setCell ⟨w.heap.size, 2, none⟩ (.slice za zn zc)).setCell ⟨w.heap.size, 3, none⟩ (.slice ba bn bc)).setCell ⟨w.heap.size + 1, 0, none⟩ .nilIface)) :=
      ((((hT w1 w.heap.size 0 _ (Nat.le_refl _) (by omega)).trans (hT _ w.heap.size 1 _ (Nat.le_refl _) (by omega))).trans (hT _ w.heap.size 2 _ (Nat.le_refl _) (by omega))).trans (hT _ w.heap.size 3 _ (Nat.le_refl _) (by omega))).trans (hT _ (w.heap.size + 1) 0 _ (by omega) (by omega))
    generalize (((((w1.setCell ⟨w.heap.size, 0, none⟩ (.int .i64 Y.now)).setCell ⟨w.heap.size, 1, none⟩ (.slice ya yn yc)).setCell ⟨w.heap.size, 2, none⟩ (.slice za zn zc)).setCell ⟨w.heap.size, 3, none⟩ (.slice ba bn bc)).setCell ⟨w.heap.size + 1, 0, none⟩ .nilIface) = W5 at *
    refine leaves_cons (f := 81) (args := #[.pointer (some ⟨w.heap.size, 0, none⟩), .pointer (some ⟨w.heap.size + 1, 0, none⟩)]) (by simp) (by simp [go_sem]) ?_
    refine (catch_idle w.heap.size (w.heap.size + 1) _).mono ?_
    rintro e u' w2 ⟨rfl, rfl, hb2⟩
    have q0 := (E1.out.on hb2).cell 0
    have q1 := (E1.out.on hb2).cell 1
    have q2 := (E1.out.on hb2).cell 2
    have q3 := (E1.out.on hb2).cell 3
    have q4 := (E2.out.on hb2).cell 0
    simp at q0 q1 q2 q3 q4
    have az2 := HK.out.az
    have hch := HK.out.ch
    have hs5 := ET.out.size
    have hs2 := hb2.size
    have HF : Hid (WholePost w lo B A x (.returned (.tuple #[.agg #[.int .i64 Y.now, .slice ya yn yc, .slice za zn zc, .slice ba bn bc], .nilIface])) w2) :=
      ⟨(HBL.out.trans ((ET.out.under (by omega)).mono (by omega))).trans (hb2.mono (by omega)), Or.inr ⟨Y, _, _, _, hap, rfl, s0, s1, c0', c1', e0, e1, ⟨by omega, by omega, by omega, by omega, by omega, by omega⟩, (HK.out.so.touch ET.out (by omega)).below hb2, (HK.out.co.touch ET.out (by omega)).below hb2, (HK.out.eo.touch ET.out (by omega)).below hb2⟩⟩
    clear hb2 K1 K2 B1 B2 HB E1 E2 ET HK HBL
    simp [Leaves, settle, results, Tryz.results63, go_sem, q0, q1, q2, q3, q4]
    exact HF.out
end
end Go.Proofs.YtaogpeebencnoaaGreatDoor
namespace Go.Proofs.YtaogpeebencnoaaGreatDoor
open Go.RowKit Go.Deep Go.Maps

theorem neqErr (v : Value) (w : World) : (binOp BinOp.neq 65 (.iface 122 v) .nilIface).run Tryz.prog w = .ok (.bool true) w := by kernel_rfl
theorem neqErrNo (w : World) : (binOp BinOp.neq 65 .nilIface .nilIface).run Tryz.prog w = .ok (.bool false) w := by kernel_rfl
/-- the checks of an act, in order -/
def ckA (B : Sb) (A : Ac) : Nat → Bool
  | 0 => actB A
  | 1 => thereB B A
  | _ => match svF B.ss A.sv with
    | some x => (x.ve == A.sn) && veB B A
    | none => true
theorem ckA_two {B : Sb} {A : Ac} {x : Sv} (hs : svF B.ss A.sv = some x) : ckA B A 2 = ((x.ve == A.sn) && veB B A) := by unfold ckA; rw [hs]; rfl
theorem es_le {B : Sb} {A : Ac} (h : ckA B A 0 = true) : A.es.length ≤ 200 := by
  have h' : actB A = true := h
  unfold actB at h'
  simp only [Bool.and_eq_true, decide_eq_true_iff] at h'
  exact h'.2.1
theorem there_sv {B : Sb} {A : Ac} {xs : Sv} (_h : ckA B A 1 = true) (hx : svF B.ss A.sv = some xs ∨ svF B.ss A.sv = none) : svF B.ss A.sv = some xs := by
  have h' : thereB B A = true := _h
  unfold thereB at h'
  rcases hx with hx | hx
  · exact hx
  · rw [hx] at h'; cases h'
theorem there_ex {B : Sb} {A : Ac} (h : ckA B A 1 = true) : exB B A = true := by
  have h' : thereB B A = true := h
  unfold thereB at h'
  rw [Bool.and_eq_true] at h'
  exact h'.2
theorem appF_three {B : Sb} {A : Ac} (h0 : ckA B A 0 = true) (h1 : ckA B A 1 = false) : appF B A = (B, 3) := by
  have h0' : actB A = true := h0
  have h1' : thereB B A = false := h1
  unfold thereB at h1'
  unfold appF
  rw [h0']
  cases hs : svF B.ss A.sv with
  | none => rfl
  | some x =>
    rw [hs] at h1'
    show appG B A x = _
    unfold appG
    rw [show exB B A = false by simpa using h1']
    rfl
theorem appF_four {B : Sb} {A : Ac} (h0 : ckA B A 0 = true) (h1 : ckA B A 1 = true) (h2 : ckA B A 2 = false) : appF B A = (B, 4) := by
  have h0' : actB A = true := h0
  have hex := there_ex h1
  have h1' : thereB B A = true := h1
  unfold thereB at h1'
  unfold appF
  rw [h0']
  cases hs : svF B.ss A.sv with
  | none => rw [hs] at h1'; cases h1'
  | some x =>
    have h2' : ((x.ve == A.sn) && veB B A) = false := by
      have : ckA B A 2 = ((x.ve == A.sn) && veB B A) := by unfold ckA; rw [hs]; rfl
      rw [← this]; exact h2
    show appG B A x = _
    unfold appG
    rw [hex]
    show appH B A x = _
    unfold appH
    cases he : (x.ve == A.sn) with
    | false => rfl
    | true =>
      rw [he, Bool.true_and] at h2'
      rw [h2']
      rfl
theorem appF_on {B : Sb} {A : Ac} {x : Sv} (h0 : ckA B A 0 = true) (h1 : ckA B A 1 = true) (h2 : ckA B A 2 = true) (hs : svF B.ss A.sv = some x) : appF B A = appI B A x := by
  have h0' : actB A = true := h0
  have hex := there_ex h1
  have h2' : ((x.ve == A.sn) && veB B A) = true := by
    have : ckA B A 2 = ((x.ve == A.sn) && veB B A) := by unfold ckA; rw [hs]; rfl
    rw [← this]; exact h2
  rw [Bool.and_eq_true] at h2'
  unfold appF
  rw [h0', hs]
  show appG B A x = _
  unfold appG
  rw [hex]
  show appH B A x = _
  unfold appH
  rw [h2'.1, h2'.2]
  rfl
theorem checksA_any (w : World) : Calls Tryz.prog 61 #[] w fun e w' => e = .returned (.slice (some ⟨w.heap.size, 0, none⟩) 3 3) ∧ Box w' w.heap.size #[.func (.func 78) #[] #[], .func (.func 79) #[] #[], .func (.func 80) #[] #[]] ∧ Below w.heap.size w w' := by
  go_enter Tryz.func61, Tryz.ntmps61
  go_wp2
  go_ret
  exact ⟨rfl, Box.new _ _ _ _ rfl, one_al _ _⟩
/-- what an act comes to -/
def ActPost (w : World) (B : Sb) (A : Ac) (e : Ending) (w' : World) : Prop :=
  Below w.heap.size w w' ∧ ((∃ c, c ≠ 0 ∧ appF B A = (B, c) ∧ e = .returned (.tuple #[.agg #[.int .i64 0, .slice none 0 0, .slice none 0 0, .slice none 0 0], .iface 122 (.agg #[.int .i64 c])])) ∨
    (∃ (Y : Sb) (sv cv bv : Value), appF B A = (Y, 0) ∧ e = .returned (.tuple #[.agg #[.int .i64 Y.now, sv, cv, bv], .nilIface]) ∧ SbOwn w.heap.size w'.heap.size w' sv cv bv Y))

set_option maxRecDepth 100000 in
set_option maxHeartbeats 16000000 in
theorem acted_any (lo m : Nat) (sv cv bv ev : Value) (B : Sb) (A : Ac) (w : World) (h : SbAt lo w sv cv bv B) (hx : IxAt w m B) (ha : AcAt lo w ev A) (hs : A.sv.size ≤ maxLen) (hv : validB B = true) (hn : SbSmall B) :
    Calls Tryz.prog 27 #[.agg #[.int .i64 B.now, sv, cv, bv, .map (some m)], .agg #[.string A.sv, .int .i64 A.sn, .int .i64 A.cr, .int .i64 A.wa, .int .i64 A.cl, .bool A.sc, ev, .bool A.dp]] w fun e w' => ActPost w B A e w' := by
  obtain ⟨⟨hn0, hn1⟩, hl1, hl2, hl3, hris, hriv, -⟩ := valid_parts hv
  have HV := hide hv
  have HKB := hide h
  have HIX := hide hx
  have HAC := hide ha
  have HSZ := hide hs
  have HN := hide hn
  have HRV := hide (And.intro hris hriv)
  obtain ⟨xs, hxs⟩ : ∃ xs : Sv, svF B.ss A.sv = some xs ∨ svF B.ss A.sv = none := by
    cases hq : svF B.ss A.sv with
    | none => exact ⟨⟨⟨#[]⟩, 0, false, 0, 0, 0, 0, 0, 0, 0, 0, 0, 0⟩, Or.inr rfl⟩
    | some y => exact ⟨y, Or.inl rfl⟩
  have HSX := hide hxs
  obtain ⟨a0, k0, rfl⟩ := h.svs.form
  obtain ⟨a1, k1, rfl⟩ := h.cps.form
  obtain ⟨a2, k2, rfl⟩ := h.bes.form
  obtain ⟨ea, ec, rfl⟩ := ha.ens.form
  clear h hx ha hs hv hn hris hriv hxs
  go_enter Tryz.func27, Tryz.ntmps27
  go_wp2_with fail
  generalize hWa : World.alloc (World.alloc (w.alloc _) _) _ = Wa
  have HB : Hid (Below w.heap.size w Wa) := by unfold Hid; rw [← hWa]; exact ((one_al w _).alloc (by simp) _).alloc (by simp; omega) _
  have F1 : Hid (Box Wa w.heap.size #[.int .i64 B.now, .slice a0 B.ss.length k0, .slice a1 B.cs.length k1, .slice a2 B.bs.length k2, .map (some m)]) := by unfold Hid; rw [← hWa]; exact ((Box.new _ _ _ _ rfl).on (one_al _ _)).on (one_al _ _)
  have F2 : Hid (Box Wa (w.heap.size + 1) #[.string A.sv, .int .i64 A.sn, .int .i64 A.cr, .int .i64 A.wa, .int .i64 A.cl, .bool A.sc, .slice ea A.es.length ec, .bool A.dp]) := by unfold Hid; rw [← hWa]; exact (Box.new _ _ _ _ (by simp)).on (one_al _ _)
  have F3 : Hid (Box Wa (w.heap.size + 1 + 1) #[.int .i64 0, .slice none 0 0, .slice none 0 0, .slice none 0 0]) := by unfold Hid; rw [← hWa]; exact Box.new _ _ _ _ (by simp)
  have hsz : Wa.heap.size = w.heap.size + 1 + 1 + 1 := by rw [← hWa]; simp
  clear hWa
  refine (checksA_any _).mono ?_
  rintro e w1 ⟨rfl, hbx, hb1⟩
  rw [hsz] at hbx
  have HK1 := hide hbx
  replace HB := hide (bt HB.out hb1)
  replace F1 := hide (F1.out.on hb1)
  replace F2 := hide (F2.out.on hb1)
  replace F3 := hide (F3.out.on hb1)
  rw [hsz]
  clear hb1 hbx hsz
  go_wp2_with fail
  go_loopw [14] (fun i wr => ∃ j : Nat, i = .int .i64 j ∧ j ≤ 3 ∧ Below w.heap.size w wr ∧ Box wr w.heap.size #[.int .i64 B.now, .slice a0 B.ss.length k0, .slice a1 B.cs.length k1, .slice a2 B.bs.length k2, .map (some m)] ∧ Box wr (w.heap.size + 1) #[.string A.sv, .int .i64 A.sn, .int .i64 A.cr, .int .i64 A.wa, .int .i64 A.cl, .bool A.sc, .slice ea A.es.length ec, .bool A.dp] ∧ Box wr (w.heap.size + 1 + 1) #[.int .i64 0, .slice none 0 0, .slice none 0 0, .slice none 0 0] ∧ Box wr (w.heap.size + 1 + 1 + 1) #[.func (.func 78) #[] #[], .func (.func 79) #[] #[], .func (.func 80) #[] #[]] ∧ ∀ l, l < j → ckA B A l = true) (fun i _ => 3 - (intOf i).toNat)
  case atStart => exact ⟨0, rfl, by omega, HB.out, F1.out, F2.out, F3.out, HK1.out, fun l h => by omega⟩
  case round =>
    obtain ⟨j, rfl, hj, hb, h1, h2, h3, h4, hall⟩ := hrel
    have HBj := hide hb
    have HXj := hide h1
    have HAj := hide h2
    have HRj := hide h3
    have HKj := hide h4
    have HCj := hide hall
    clear hb h1 h2 h3 h4 hall HB F1 F2 F3 HK1
    by_cases hjl : j < 3
    · have x := HXj.out.cell
      have t := HAj.out.cell
      have hj' : j = 0 ∨ j = 1 ∨ j = 2 := by omega
      rcases hj' with rfl | rfl | rfl
      · have kc := HKj.out.cell 0
        simp at kc
        cases hq : ckA B A 0 with
        | false =>
          have HF : Hid (appF B A = (B, 2)) := by
            unfold Hid appF
            rw [show actB A = false from hq]
            rfl
          go_wp2_with fail
          refine (actSound_any lo m B.now _ _ _ _ A _ (HAC.out.below HBj.out) ⟨_, _, _, rfl⟩ ⟨_, _, _, rfl⟩ ⟨_, _, _, rfl⟩).mono ?_
          rintro e w3 ⟨he, hb3⟩
          have he2 : e = .returned (.iface 122 (.agg #[.int .i64 2])) := by rw [he, show actB A = _ from hq]; rfl
          subst he2
          have HB3 := hide (bt HBj.out hb3)
          have HR3 := hide (HRj.out.on hb3)
          clear hb3 x t kc he
          have r0 := HR3.out.cell
          have rf := HR3.out.free
          simp at r0
          have hn := neqErr
          go_wp2
          refine bodyPost_ret (v := .tuple #[.agg #[.int .i64 0, .slice none 0 0, .slice none 0 0, .slice none 0 0], .iface 122 (.agg #[.int .i64 2])]) (by simp [results, Tryz.results27, go_sem, r0]) rfl ?_
          exact ⟨below_sets4 HB3.out (by omega) _ _ _ _, Or.inl ⟨2, by decide, HF.out, rfl⟩⟩
        | true =>
          have HQ := hide hq
          go_wp2_with fail
          refine (actSound_any lo m B.now _ _ _ _ A _ (HAC.out.below HBj.out) ⟨_, _, _, rfl⟩ ⟨_, _, _, rfl⟩ ⟨_, _, _, rfl⟩).mono ?_
          rintro e w3 ⟨he, hb3⟩
          have he2 : e = .returned .nilIface := by rw [he, show actB A = _ from hq]; rfl
          subst he2
          have HB3 := hide (bt HBj.out hb3)
          have HX3 := hide (HXj.out.on hb3)
          have HA3 := hide (HAj.out.on hb3)
          have HR3 := hide (HRj.out.on hb3)
          have HK3 := hide (HKj.out.on hb3)
          clear hb3 x t kc he
          have hn := neqErrNo
          go_wp2
          go_roundw
          case rel => exact ⟨1, by go_num, by omega, HB3.out, HX3.out, HA3.out, HR3.out, HK3.out, fun l hl => by
                        by_cases e : l = 0
                        · rw [e]; exact HQ.out
                        · exact HCj.out l (by omega)⟩
          case measure => simp [intOf]
      · have kc := HKj.out.cell 1
        simp at kc
        cases hq : ckA B A 1 with
        | false =>
          have HF : Hid (appF B A = (B, 3)) := by
            exact appF_three (HCj.out 0 (by omega)) hq
          go_wp2_with fail
          refine (actThere_any lo m _ _ _ _ B A _ (HKB.out.below HBj.out) (HIX.out.below HBj.out) (HAC.out.below HBj.out) HSZ.out HRV.out.2 HRV.out.1 hl2 (es_le (HCj.out 0 (by omega)))).mono ?_
          rintro e w3 ⟨he, hb3⟩
          have he2 : e = .returned (.iface 122 (.agg #[.int .i64 3])) := by rw [he, show thereB B A = _ from hq]; rfl
          subst he2
          have HB3 := hide (bt HBj.out hb3)
          have HR3 := hide (HRj.out.on hb3)
          clear hb3 x t kc he
          have r0 := HR3.out.cell
          have rf := HR3.out.free
          simp at r0
          have hn := neqErr
          go_wp2
          refine bodyPost_ret (v := .tuple #[.agg #[.int .i64 0, .slice none 0 0, .slice none 0 0, .slice none 0 0], .iface 122 (.agg #[.int .i64 3])]) (by simp [results, Tryz.results27, go_sem, r0]) rfl ?_
          exact ⟨below_sets4 HB3.out (by omega) _ _ _ _, Or.inl ⟨3, by decide, HF.out, rfl⟩⟩
        | true =>
          have HQ := hide hq
          go_wp2_with fail
          refine (actThere_any lo m _ _ _ _ B A _ (HKB.out.below HBj.out) (HIX.out.below HBj.out) (HAC.out.below HBj.out) HSZ.out HRV.out.2 HRV.out.1 hl2 (es_le (HCj.out 0 (by omega)))).mono ?_
          rintro e w3 ⟨he, hb3⟩
          have he2 : e = .returned .nilIface := by rw [he, show thereB B A = _ from hq]; rfl
          subst he2
          have HB3 := hide (bt HBj.out hb3)
          have HX3 := hide (HXj.out.on hb3)
          have HA3 := hide (HAj.out.on hb3)
          have HR3 := hide (HRj.out.on hb3)
          have HK3 := hide (HKj.out.on hb3)
          clear hb3 x t kc he
          have hn := neqErrNo
          go_wp2
          go_roundw
          case rel => exact ⟨2, by go_num, by omega, HB3.out, HX3.out, HA3.out, HR3.out, HK3.out, fun l hl => by
                        by_cases e : l = 1
                        · rw [e]; exact HQ.out
                        · exact HCj.out l (by omega)⟩
          case measure => simp [intOf]
      · have kc := HKj.out.cell 2
        simp at kc
        cases hq : ckA B A 2 with
        | false =>
          have HF : Hid (appF B A = (B, 4)) := by
            exact appF_four (HCj.out 0 (by omega)) (HCj.out 1 (by omega)) hq
          go_wp2_with fail
          refine (actNow_any lo m _ _ _ _ B A _ (HKB.out.below HBj.out) (HIX.out.below HBj.out) (HAC.out.below HBj.out) HSZ.out HRV.out.2 HRV.out.1 hl2 (es_le (HCj.out 0 (by omega))) xs (there_sv (HCj.out 1 (by omega)) HSX.out) (there_ex (HCj.out 1 (by omega)))).mono ?_
          rintro e w3 ⟨he, hb3⟩
          have he2 : e = .returned (.iface 122 (.agg #[.int .i64 4])) := by rw [he, (ckA_two (there_sv (HCj.out 1 (by omega)) HSX.out)).symm.trans hq]; rfl
          subst he2
          have HB3 := hide (bt HBj.out hb3)
          have HR3 := hide (HRj.out.on hb3)
          clear hb3 x t kc he
          have r0 := HR3.out.cell
          have rf := HR3.out.free
          simp at r0
          have hn := neqErr
          go_wp2
          refine bodyPost_ret (v := .tuple #[.agg #[.int .i64 0, .slice none 0 0, .slice none 0 0, .slice none 0 0], .iface 122 (.agg #[.int .i64 4])]) (by simp [results, Tryz.results27, go_sem, r0]) rfl ?_
          exact ⟨below_sets4 HB3.out (by omega) _ _ _ _, Or.inl ⟨4, by decide, HF.out, rfl⟩⟩
        | true =>
          have HQ := hide hq
          go_wp2_with fail
          refine (actNow_any lo m _ _ _ _ B A _ (HKB.out.below HBj.out) (HIX.out.below HBj.out) (HAC.out.below HBj.out) HSZ.out HRV.out.2 HRV.out.1 hl2 (es_le (HCj.out 0 (by omega))) xs (there_sv (HCj.out 1 (by omega)) HSX.out) (there_ex (HCj.out 1 (by omega)))).mono ?_
          rintro e w3 ⟨he, hb3⟩
          have he2 : e = .returned .nilIface := by rw [he, (ckA_two (there_sv (HCj.out 1 (by omega)) HSX.out)).symm.trans hq]; rfl
          subst he2
          have HB3 := hide (bt HBj.out hb3)
          have HX3 := hide (HXj.out.on hb3)
          have HA3 := hide (HAj.out.on hb3)
          have HR3 := hide (HRj.out.on hb3)
          have HK3 := hide (HKj.out.on hb3)
          clear hb3 x t kc he
          have hn := neqErrNo
          go_wp2
          go_roundw
          case rel => exact ⟨3, by go_num, by omega, HB3.out, HX3.out, HA3.out, HR3.out, HK3.out, fun l hl => by
                        by_cases e : l = 2
                        · rw [e]; exact HQ.out
                        · exact HCj.out l (by omega)⟩
          case measure => simp [intOf]
    · have hj3 : j = 3 := by omega
      subst hj3
      have HC0 := hide (HCj.out 0 (by omega))
      have HC1 := hide (HCj.out 1 (by omega))
      have HC2 := hide (HCj.out 2 (by omega))
      have HSV := hide (there_sv HC1.out HSX.out)
      have x := HXj.out.cell
      have t := HAj.out.cell
      go_wp2_with fail
      clear x t
      refine (svcPlace_any lo m _ _ _ B A.sv _ (HKB.out.below HBj.out) (HIX.out.below HBj.out) HSZ.out HRV.out.2).mono ?_
      rintro e w3 ⟨pc, tt, rfl, hb3, hsi⟩
      obtain ⟨k, hk, rfl, hfx, hIx, hnm⟩ : ∃ (k : Nat) (h : k < B.ss.length), pc = (k : Int) ∧ svF B.ss A.sv = some B.ss[k] ∧ svI B.ss A.sv = k ∧ B.ss[k].nm = A.sv := by
        rcases hsi.out with ⟨-, h0⟩ | ⟨-, k, hk, h1, h2, h3, h4⟩
        · rw [HSV.out] at h0; cases h0
        · exact ⟨k, hk, h1, h2, h3, h4⟩
      have hxk : B.ss[k] = xs := Option.some.inj (hfx.symm.trans HSV.out)
      have HXK := hide (And.intro hxk (And.intro hIx hnm))
      have HB3 := hide (bt HBj.out hb3)
      have HX3 := hide (HXj.out.on hb3)
      have HA3 := hide (HAj.out.on hb3)
      have HR3 := hide (HRj.out.on hb3)
      clear hb3 hsi hxk hIx hnm hfx HBj HXj HAj HRj HKj HCj
      go_wp2_with fail
      refine wp_region_held_drew (S := Held2 w3 w.heap.size #[.int .i64 B.now, .slice a0 B.ss.length k0, .slice a1 B.cs.length k1, .slice a2 B.bs.length k2, .map (some m)] (w.heap.size + 1) #[.string A.sv, .int .i64 A.sn, .int .i64 A.cr, .int .i64 A.wa, .int .i64 A.cl, .bool A.sc, .slice ea A.es.length ec, .bool A.dp]) (by kernel_rfl) (Held2.drew HX3.out HA3.out) (fun hHeld => ?_)
      refine wpAnyH_take (i := 0) (v := .pointer (some ⟨w.heap.size, 0, none⟩)) rfl (by kernel_rfl) (by kernel_rfl) (by kernel_rfl) (fun _ _ _ h => h) (Or.inl ⟨by rfl, fun W hW => by (try dsimp only at hW); go_simp⟩) hHeld ?_
      try simp only [Act.put, List.getElem_toArray, List.getElem_cons_zero, List.setIfInBounds_toArray, List.set_cons_zero, List.set_cons_succ]
      refine wpAnyH_take (i := 1) (v := .agg #[.int .i64 B.now, .slice a0 B.ss.length k0, .slice a1 B.cs.length k1, .slice a2 B.bs.length k2]) rfl (by kernel_rfl) (by kernel_rfl) (by kernel_rfl) (fun _ _ _ h => h) (Or.inl ⟨by rfl, fun W hW => by (try dsimp only at hW); go_simp⟩) hHeld ?_
      try simp only [Act.put, List.getElem_toArray, List.getElem_cons_succ, List.getElem_cons_zero, List.setIfInBounds_toArray, List.set_cons_zero, List.set_cons_succ]
      refine wpAnyH_take (i := 3) (v := .agg #[.string A.sv, .int .i64 A.sn, .int .i64 A.cr, .int .i64 A.wa, .int .i64 A.cl, .bool A.sc, .slice ea A.es.length ec, .bool A.dp]) rfl (by kernel_rfl) (by kernel_rfl) (by kernel_rfl) (fun _ _ _ h => h) (Or.inl ⟨by rfl, fun W hW => by (try dsimp only at hW); go_simp⟩) hHeld ?_
      try simp only [Act.put, List.getElem_toArray, List.getElem_cons_succ, List.getElem_cons_zero, List.setIfInBounds_toArray, List.set_cons_zero, List.set_cons_succ]
      refine wpAnyH_take (i := 4) (v := .int .i64 k) rfl (by kernel_rfl) (by kernel_rfl) (by kernel_rfl) (fun _ _ _ h => h) (Or.inl ⟨by rfl, fun W hW => by (try dsimp only at hW); go_simp⟩) hHeld ?_
      try simp only [Act.put, List.getElem_toArray, List.getElem_cons_succ, List.getElem_cons_zero, List.setIfInBounds_toArray, List.set_cons_zero, List.set_cons_succ]
      refine wpAnyH_ready (rs := [2]) (by kernel_rfl) (by simp) ?_
      refine AllReadyH.cons rfl (fun K hK => ?_) AllReadyH.nil
      go_simp
      refine (copyBookR_any lo _ _ _ B _ (HKB.out.below (bt HB3.out ((Below.refl _ _).drew))) HN.out).mono ?_
      rintro e w5 ⟨b0, m0, b1, m1, b2, m2, rfl, hb5, s0, s1, c0, c1, e0, e1, hap, hso, hco, heo, hsh⟩
      refine hK.out _ _ (hHeld.on hb5) (fun hHx => ?_)
      clear hHeld
      have hHeld := hHx
      clear hK K hHx
      try simp only [Act.put, List.getElem_toArray, List.getElem_cons_succ, List.getElem_cons_zero, List.setIfInBounds_toArray, List.set_cons_zero, List.set_cons_succ]
      refine wpAnyH_take (i := 5) (v := .agg #[.int .i64 B.now, .slice b0 B.ss.length m0, .slice b1 B.cs.length m1, .slice b2 B.bs.length m2, .string A.sv, .int .i64 A.sn, .int .i64 A.cr, .int .i64 A.wa, .int .i64 A.cl, .bool A.sc, .slice ea A.es.length ec, .bool A.dp, .int .i64 k]) rfl (by kernel_rfl) (by kernel_rfl) (by kernel_rfl) (fun _ _ _ h => h) (Or.inl ⟨by rfl, fun W hW => by (try dsimp only at hW); go_simp⟩) hHeld ?_
      try simp only [Act.put, List.getElem_toArray, List.getElem_cons_succ, List.getElem_cons_zero, List.setIfInBounds_toArray, List.set_cons_zero, List.set_cons_succ]
      refine wpAnyH_ready (rs := [6]) (by kernel_rfl) (by simp) ?_
      refine AllReadyH.cons rfl (fun K hK => ?_) AllReadyH.nil
      go_simp
      refine hK.out _ _ (hHeld.on (one_al _ _)) (fun hHx => ?_)
      clear hHeld
      have hHeld := hHx
      clear hK K hHx
      try simp only [Act.put, List.getElem_toArray, List.getElem_cons_succ, List.getElem_cons_zero, List.setIfInBounds_toArray, List.set_cons_zero, List.set_cons_succ]
      refine wpAnyH_take (i := 7) (v := .pointer (some ⟨w5.heap.size, 0, none⟩)) rfl (by kernel_rfl) (by kernel_rfl) (by kernel_rfl) (fun _ _ _ h => h) (Or.inl ⟨by rfl, fun W hW => by (try dsimp only at hW); go_simp⟩) hHeld ?_
      try simp only [Act.put, List.getElem_toArray, List.getElem_cons_succ, List.getElem_cons_zero, List.setIfInBounds_toArray, List.set_cons_zero, List.set_cons_succ]
      refine wpAnyH_done (by kernel_rfl) ?_ _
      have hbw5 : Below w.heap.size w w5 := bt (bt HB3.out ((Below.refl _ _).drew)) hb5
      have hb35 : Below w3.heap.size w3 w5 := bt ((Below.refl _ _).drew) hb5
      obtain ⟨sb, so, sc, hse, -⟩ := hso.one hk
      injection hse with hse1 hse2 hse3
      subst hse1 hse3
      have hz3 : w.heap.size ≤ w3.heap.size := HB3.out.size
      have hz35 : w3.heap.size ≤ w5.heap.size := hb35.size
      obtain ⟨p1, p2, p3, p4, p5, p6⟩ := hap
      have HWk : Hid (Wk w (w5.alloc (.cells #[.int .i64 B.now, .slice (some ⟨sb, so, none⟩) B.ss.length m0, .slice b1 B.cs.length m1, .slice b2 B.bs.length m2, .string A.sv, .int .i64 A.sn, .int .i64 A.cr, .int .i64 A.wa, .int .i64 A.cl, .bool A.sc, .slice ea A.es.length ec, .bool A.dp, .int .i64 k] 119)) w3.heap.size w5.heap.size s0 s1 c0 c1 e0 e1 #[.int .i64 B.now, .slice (some ⟨sb, so, none⟩) B.ss.length m0, .slice b1 B.cs.length m1, .slice b2 B.bs.length m2, .string A.sv, .int .i64 A.sn, .int .i64 A.cr, .int .i64 A.wa, .int .i64 A.cl, .bool A.sc, .slice ea A.es.length ec, .bool A.dp, .int .i64 k] (.slice (some ⟨sb, so, none⟩) B.ss.length m0) (.slice b1 B.cs.length m1) (.slice b2 B.bs.length m2) B.ss B.cs B.bs) :=
        ⟨bt hbw5 (one_al _ _), Box.new _ _ _ _ rfl, hso.below (one_al _ _), hco.below (one_al _ _), heo.below (one_al _ _), by simp; exact Nat.le_succ_of_le p2.2, hsh.below (one_al _ _), hz3, p1.1, p1.2, p3.1, p3.2, p2.1, Or.inl p2.2, p4, p6.symm, p5, hz35⟩
      have HR6 := hide ((HR3.out.on hb35).on (one_al w5 (.cells #[.int .i64 B.now, .slice (some ⟨sb, so, none⟩) B.ss.length m0, .slice b1 B.cs.length m1, .slice b2 B.bs.length m2, .string A.sv, .int .i64 A.sn, .int .i64 A.cr, .int .i64 A.wa, .int .i64 A.cl, .bool A.sc, .slice ea A.es.length ec, .bool A.dp, .int .i64 k] 119)))
      have HB6 := hide (bt hbw5 (one_al w5 (.cells #[.int .i64 B.now, .slice (some ⟨sb, so, none⟩) B.ss.length m0, .slice b1 B.cs.length m1, .slice b2 B.bs.length m2, .string A.sv, .int .i64 A.sn, .int .i64 A.cr, .int .i64 A.wa, .int .i64 A.cl, .bool A.sc, .slice ea A.es.length ec, .bool A.dp, .int .i64 k] 119)))
      have hc1 := p2.2
      clear hHeld hb5 hbw5 hb35 hse2 hso hco heo hsh p1 p2 p3 p4 p5 p6
      generalize w5.alloc (.cells #[.int .i64 B.now, .slice (some ⟨sb, so, none⟩) B.ss.length m0, .slice b1 B.cs.length m1, .slice b2 B.bs.length m2, .string A.sv, .int .i64 A.sn, .int .i64 A.cr, .int .i64 A.wa, .int .i64 A.cl, .bool A.sc, .slice ea A.es.length ec, .bool A.dp, .int .i64 k] 119) = W6 at *
      go_wp2_with fail
      refine (whole_any w W6 w3.heap.size w5.heap.size s0 s1 c0 c1 e0 e1 sb so m0 k (.slice b1 B.cs.length m1) (.slice b2 B.bs.length m2) (.slice ea A.es.length ec) B A xs hk HXK.out.2.1 HXK.out.1 (HXK.out.1 ▸ HXK.out.2.2) HSV.out HV.out HC0.out (there_ex HC1.out) HWk.out hc1 (HAC.out.mono (Nat.zero_le _))).mono ?_
      have HAF := hide (appF_on HC0.out HC1.out HC2.out HSV.out)
      rintro e w7 ⟨hb7, ⟨c, hc0, hap, rfl⟩ | ⟨Y, sv7, cv7, bv7, hap, rfl, hown⟩⟩
      · have HB7 : Hid (Below w.heap.size w w7) := HB6.out.trans (hb7.mono hz3)
        have HR7 := hide (HR6.out.below hb7 (by have := HR3.out.lt; omega))
        have r0 := HR7.out.cell
        have rf := HR7.out.free
        simp at r0
        have hap2 := HAF.out.trans hap
        clear hb7 hap HWk
        go_wp2
        refine bodyPost_ret (v := .tuple #[.agg #[.int .i64 0, .slice none 0 0, .slice none 0 0, .slice none 0 0], .iface 122 (.agg #[.int .i64 c])]) (by simp [results, Tryz.results27, go_sem, r0]) rfl ?_
        exact ⟨below_sets4 HB7.out (by omega) _ _ _ _, Or.inl ⟨c, hc0, hap2, rfl⟩⟩
      · have HB7 : Hid (Below w.heap.size w w7) := HB6.out.trans (hb7.mono hz3)
        have hlt3 := HR3.out.lt
        have HR7 := hide (HR6.out.below hb7 (by omega))
        obtain ⟨ya, yn, yc, rfl⟩ : ∃ a n k, sv7 = .slice a n k := by obtain ⟨_, _, _, _, _, _, _, h1, _, _⟩ := hown; obtain ⟨a, k, e⟩ := h1.form; exact ⟨a, _, k, e⟩
        obtain ⟨za, zn, zc, rfl⟩ : ∃ a n k, cv7 = .slice a n k := by obtain ⟨_, _, _, _, _, _, _, _, h1, _⟩ := hown; obtain ⟨a, k, e⟩ := h1.form; exact ⟨a, _, k, e⟩
        obtain ⟨ba, bn, bc, rfl⟩ : ∃ a n k, bv7 = .slice a n k := by obtain ⟨_, _, _, _, _, _, _, _, _, h1⟩ := hown; obtain ⟨a, k, e⟩ := h1.form; exact ⟨a, _, k, e⟩
        have r0 := HR7.out.cell
        have rf := HR7.out.free
        simp at r0
        have hap2 := HAF.out.trans hap
        have HOW := hide hown
        have hz7 := HB7.out.size
        clear hb7 hap HWk hown
        go_wp2
        refine bodyPost_ret (v := .tuple #[.agg #[.int .i64 Y.now, .slice ya yn yc, .slice za zn zc, .slice ba bn bc], .nilIface]) (by simp [results, Tryz.results27, go_sem, r0]) rfl ?_
        refine ⟨below_sets4 HB7.out (by omega) _ _ _ _, Or.inr ⟨Y, _, _, _, hap2, rfl, ?_⟩⟩
        have hT := fun (W : World) (k : Nat) (u : Value) => Touch.setCell (w.heap.size + 1 + 1) (w.heap.size + 1 + 1 + 1) W ⟨w.heap.size + 1 + 1, k, none⟩ u ⟨Nat.le_refl _, Nat.lt_succ_self _⟩
        exact ((((HOW.out.touch (hT _ _ _) (by omega)).touch (hT _ _ _) (by omega)).touch (hT _ _ _) (by omega)).touch (hT _ _ _) (by omega)).wide (by omega) (by simp)
end Go.Proofs.YtaogpeebencnoaaGreatDoor
namespace Go.Proofs.YtaogpeebencnoaaGreatDoor
open Go.RowKit Go.Deep Go.Maps

set_option maxRecDepth 100000 in
set_option maxHeartbeats 16000000 in
theorem implApply_any (sv cv bv ev : Value) (B : Sb) (A : Ac) (w : World) (h : SbAt 0 w sv cv bv B) (ha : AcAt 0 w ev A) (hn : SbSmall B) (_hm : AcSmall A) (hg : Laid w) :
    Calls Tryz.prog 9 #[.agg #[.int .i64 B.now, sv, cv, bv], .agg #[.string A.sv, .int .i64 A.sn, .int .i64 A.cr, .int .i64 A.wa, .int .i64 A.cl, .bool A.sc, ev, .bool A.dp]] w fun e w' => SbAns w e w' (applyA B A).1 (applyA B A).2 := by
  have HK := hide h
  have HAC := hide ha
  have HN := hide hn
  have HG := hide hg
  have HSZ := hide ha.siz
  obtain ⟨a0, k0, rfl⟩ := h.svs.form
  obtain ⟨a1, k1, rfl⟩ := h.cps.form
  obtain ⟨a2, k2, rfl⟩ := h.bes.form
  obtain ⟨ea, ec, rfl⟩ := ha.ens.form
  clear h ha hn hg
  go_enter Tryz.func9, Tryz.ntmps9
  go_wp2_with fail
  generalize hWa : World.alloc (World.alloc (w.alloc _) _) _ = Wa
  have HB : Hid (Below w.heap.size w Wa) := by unfold Hid; rw [← hWa]; exact ((one_al w _).alloc (by simp) _).alloc (by simp; omega) _
  have F1 : Hid (Box Wa w.heap.size #[.int .i64 B.now, .slice a0 B.ss.length k0, .slice a1 B.cs.length k1, .slice a2 B.bs.length k2]) := by unfold Hid; rw [← hWa]; exact ((Box.new _ _ _ _ rfl).on (one_al _ _)).on (one_al _ _)
  have F2 : Hid (Box Wa (w.heap.size + 1) #[.string A.sv, .int .i64 A.sn, .int .i64 A.cr, .int .i64 A.wa, .int .i64 A.cl, .bool A.sc, .slice ea A.es.length ec, .bool A.dp]) := by unfold Hid; rw [← hWa]; exact (Box.new _ _ _ _ (by simp)).on (one_al _ _)
  have F3 : Hid (Box Wa (w.heap.size + 1 + 1) #[.int .i64 0, .slice none 0 0, .slice none 0 0, .slice none 0 0]) := by unfold Hid; rw [← hWa]; exact Box.new _ _ _ _ (by simp)
  clear hWa
  refine (validIndex_any 0 _ _ _ B _ (HK.out.below HB.out)).mono ?_
  rintro e w1 ⟨hb1, hh⟩
  replace HB := hide (bt HB.out hb1)
  replace F1 := hide (F1.out.on hb1)
  replace F2 := hide (F2.out.on hb1)
  replace F3 := hide (F3.out.on hb1)
  clear hb1
  rcases hh with ⟨hv, rfl⟩ | ⟨hv, m, hix, rfl⟩
  · have HE : Hid (applyA B A = (sb0, 1)) := by unfold Hid applyA; rw [hv]; rfl
    have r0 := fun o => (F3.out.on (one_al w1 o)).cell
    have g0 := fun o => (F3.out.on (one_al w1 o)).free
    clear hv
    go_wp2
    refine bodyPost_ret (v := .tuple #[.agg #[.int .i64 0, .slice none 0 0, .slice none 0 0, .slice none 0 0], .int .i64 1]) (by simp [results, Tryz.results9, go_sem, r0]) rfl ?_
    rw [HE.out]
    exact ⟨none, 0, none, 0, none, 0, rfl, below_sets4 (bt HB.out (one_al _ _)) (by omega) _ _ _ _, ⟨w.heap.size, w.heap.size, w.heap.size, w.heap.size, w.heap.size, w.heap.size, ⟨by have := HB.out.size; simp; omega, by have := HB.out.size; simp; omega, by have := HB.out.size; simp; omega, Or.inl (Nat.le_refl _), Or.inl (Nat.le_refl _), Or.inl (Nat.le_refl _)⟩, Or.inl ⟨_, _, rfl, rfl⟩, Or.inl ⟨_, _, rfl, rfl⟩, Or.inl ⟨_, _, rfl, rfl⟩⟩⟩
  · have HE : Hid (applyA B A = appF B A) := by unfold Hid applyA; rw [hv]; rfl
    have HV := hide hv
    have HIX := hide hix
    have q := fun o => (F2.out.on (one_al w1 o)).cell
    clear hv hix
    go_wp2_with fail
    clear q
    generalize hW2 : w1.alloc _ = W2
    have hb2 : Below w1.heap.size w1 W2 := by rw [← hW2]; exact one_al _ _
    replace HB := hide (bt HB.out hb2)
    replace F1 := hide (F1.out.on hb2)
    replace F3 := hide (F3.out.on hb2)
    replace HIX := hide (HIX.out.below hb2)
    clear hW2 hb2 F2
    refine (acted_any 0 m _ _ _ _ B A _ (HK.out.below HB.out) HIX.out (HAC.out.below HB.out) HSZ.out HV.out HN.out).mono ?_
    have hzW := HB.out.size
    rintro e w3 ⟨hb3, ⟨c, hc0, hap, rfl⟩ | ⟨Y, sv7, cv7, bv7, hap, rfl, hown⟩⟩
    · have HAP := hide (HE.out.trans hap)
      replace HB := hide (bt HB.out hb3)
      replace F1 := hide (F1.out.on hb3)
      replace F3 := hide (F3.out.on hb3)
      clear hb3 hap
      go_wp2_with fail
      generalize hW4 : w3.alloc _ = W4
      have hb4 : Below w3.heap.size w3 W4 := by rw [← hW4]; exact one_al _ _
      replace HB := hide (bt HB.out hb4)
      replace F1 := hide (F1.out.on hb4)
      replace F3 := hide (F3.out.on hb4)
      clear hW4 hb4
      refine (codeOf_any c _ (HG.out.on HB.out)).mono ?_
      rintro e w5 ⟨rfl, hb5⟩
      replace HB := hide (bt HB.out hb5)
      replace F1 := hide (F1.out.on hb5)
      replace F3 := hide (F3.out.on hb5)
      clear hb5
      have p := F1.out.cell
      go_wp2_with fail
      clear p
      refine (copyBook_any 0 _ _ _ B _ (HK.out.below HB.out) HN.out).mono ?_
      rintro e w6 ⟨b0, m0, b1, m1, b2, m2, rfl, hb6, ho6⟩
      have hz5 := HB.out.size
      replace HB := hide (bt HB.out hb6)
      have hlt3 := F3.out.lt
      replace F3 := hide (F3.out.on hb6)
      have HO := hide ho6
      have hz6 := hb6.size
      clear hb6 ho6
      have r0 := F3.out.cell
      have g0 := F3.out.free
      go_wp2
      refine bodyPost_ret (v := .tuple #[.agg #[.int .i64 B.now, .slice b0 B.ss.length m0, .slice b1 B.cs.length m1, .slice b2 B.bs.length m2], .int .i64 c]) (by simp [results, Tryz.results9, go_sem, r0]) rfl ?_
      rw [HAP.out]
      refine ⟨_, _, _, _, _, _, rfl, below_sets4 HB.out (by omega) _ _ _ _, ?_⟩
      have hT := fun (W : World) (k : Nat) (u : Value) => Touch.setCell (w.heap.size + 1 + 1) (w.heap.size + 1 + 1 + 1) W ⟨w.heap.size + 1 + 1, k, none⟩ u ⟨Nat.le_refl _, Nat.lt_succ_self _⟩
      exact ((((HO.out.touch (hT _ _ _) (by omega)).touch (hT _ _ _) (by omega)).touch (hT _ _ _) (by omega)).touch (hT _ _ _) (by omega)).wide (by omega) (by simp)
    · have HAP := hide (HE.out.trans hap)
      have HOW := hide hown
      have hltW := F3.out.lt
      replace HB := hide (bt HB.out hb3)
      replace F3 := hide (F3.out.on hb3)
      have hz3 := hb3.size
      clear hb3 hap hown
      obtain ⟨y0, z0, y1, z1, y2, z2, rfl, rfl, rfl⟩ : ∃ y0 z0 y1 z1 y2 z2, sv7 = .slice y0 Y.ss.length z0 ∧ cv7 = .slice y1 Y.cs.length z1 ∧ bv7 = .slice y2 Y.bs.length z2 := by
        obtain ⟨_, _, _, _, _, _, _, h1, h2, h3⟩ := HOW.out
        obtain ⟨y0, z0, e0⟩ := h1.form
        obtain ⟨y1, z1, e1⟩ := h2.form
        obtain ⟨y2, z2, e2⟩ := h3.form
        exact ⟨y0, z0, y1, z1, y2, z2, e0, e1, e2⟩
      go_wp2_with fail
      generalize hW4 : w3.alloc _ = W4
      have F8 : Hid (Box W4 w3.heap.size #[.int .i64 Y.now, .slice y0 Y.ss.length z0, .slice y1 Y.cs.length z1, .slice y2 Y.bs.length z2]) := by unfold Hid; rw [← hW4]; exact Box.new _ _ _ _ rfl
      have hb4 : Below w3.heap.size w3 W4 := by rw [← hW4]; exact one_al _ _
      replace HB := hide (bt HB.out hb4)
      replace F3 := hide (F3.out.on hb4)
      replace HOW := hide (HOW.out.below hb4)
      have hz4 := hb4.size
      clear hW4 hb4
      refine (codeNo_any _).mono ?_
      rintro e w5 ⟨rfl, hb5⟩
      replace HB := hide (bt HB.out hb5)
      replace F3 := hide (F3.out.on hb5)
      replace F8 := hide (F8.out.on hb5)
      replace HOW := hide (HOW.out.below hb5)
      have hz5 := hb5.size
      clear hb5
      have r0 := F3.out.cell
      have g0 := F3.out.free
      have p := F8.out.cell
      go_wp2
      refine bodyPost_ret (v := .tuple #[.agg #[.int .i64 Y.now, .slice y0 Y.ss.length z0, .slice y1 Y.cs.length z1, .slice y2 Y.bs.length z2], .int .i64 0]) (by simp [results, Tryz.results9, go_sem, r0]) rfl ?_
      rw [HAP.out]
      refine ⟨_, _, _, _, _, _, rfl, below_sets4 HB.out (by omega) _ _ _ _, ?_⟩
      have hT := fun (W : World) (k : Nat) (u : Value) => Touch.setCell (w.heap.size + 1 + 1) (w.heap.size + 1 + 1 + 1) W ⟨w.heap.size + 1 + 1, k, none⟩ u ⟨Nat.le_refl _, Nat.lt_succ_self _⟩
      exact ((((HOW.out.touch (hT _ _ _) (by omega)).touch (hT _ _ _) (by omega)).touch (hT _ _ _) (by omega)).touch (hT _ _ _) (by omega)).wide (by omega) (by simp; omega)
end Go.Proofs.YtaogpeebencnoaaGreatDoor
