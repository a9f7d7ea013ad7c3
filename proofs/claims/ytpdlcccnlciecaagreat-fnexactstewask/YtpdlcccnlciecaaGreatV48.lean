import Derived.Test.YtpdlcccnlciecaaGreatV47
namespace Go.Proofs.YtpdlcccnlciecaaGreat
open Go.RowKit Go.Deep

def imgI (B : Sb) (x : Sv) : Option Ac := if x.gn = true ∨ (oldL B x).length = 0 then none else replI B x (oldL B x)
def drnI (B : Sb) (x : Sv) : Option Ac := if x.gn = true ∨ 0 < (oldL B x).length ∨ (drL B x).length = 0 then none else replI B x (drL B x)
section
variable (lo m : Nat) (sv cv bv : Value) (B : Sb) (x : Sv) (n : Ct) (d : Int) (lk : List Value) (w : World)
set_option maxRecDepth 100000 in
set_option maxHeartbeats 8000000 in
theorem keepImage_c (hlk : LkIs lk m sv cv bv B x n d) (h : SbAt lo w sv cv bv B) (hx : IxAt w m B) (hv : validB B = true) (hsx : svF B.ss x.nm = some x) (hn : n.li = (((liveL B x.nm).length : Nat) : Int)) (hol : n.ol = (((oldL B x).length : Nat) : Int)) (hd : d = (((drL B x).length : Nat) : Int)) (hen : n.en = (ctL B.cs x.nm x.im).en) (hw : (0 ≤ x.wa ∧ x.wa ≤ 10) ∧ (0 ≤ x.dn ∧ x.dn ≤ 10)) (ho : 0 ≤ x.ov ∧ x.ov ≤ 10) :
    Calls Tryz.prog 76 #[.agg lk.toArray] w fun e w' => CareIs w (imgI B x) e w' := by
  have HLK := hide hlk
  have HK := hide h
  have HX := hide hx
  have HV := hide hv
  have HSX := hide hsx
  have HW := hide hw
  have HN := hide hn
  have HOL := hide hol
  have HD := hide hd
  have HEN := hide hen
  clear hlk h hv hx hsx hn hol hd hen
  go_enter Tryz.func76, Tryz.ntmps76
  have FX0 : Hid (Box ((w.alloc (.cells lk.toArray 105)).alloc (.cells zAct.toArray 47)) w.heap.size lk.toArray) := (Box.new _ _ _ _ rfl).on (one_al _ _)
  have g7 : ((w.alloc (.cells lk.toArray 105)).alloc (.cells zAct.toArray 47)).cell? ⟨w.heap.size, 7, none⟩ = some (.bool x.gn) := by rw [FX0.out.cell 7, HLK.out]; rfl
  have g20 : ((w.alloc (.cells lk.toArray 105)).alloc (.cells zAct.toArray 47)).cell? ⟨w.heap.size, 20, none⟩ = some (.int .i64 n.ol) := by rw [FX0.out.cell 20, HLK.out]; rfl
  have hol' := HOL.out
  cases hg : x.gn with
  | true =>
    have HE : Hid (imgI B x = none) := if_pos (Or.inl hg)
    rw [hg] at g7
    clear hol'
    go_wp2_with fail
    clear g7 g20
    generalize hWa : World.alloc (w.alloc _) _ = Wa
    have FX : Hid (Box Wa w.heap.size lk.toArray) := by unfold Hid; rw [← hWa]; exact (Box.new _ _ _ _ rfl).on (one_al _ _)
    have FR : Hid (Box Wa (w.heap.size + 1) zAct.toArray) := by unfold Hid; rw [← hWa]; exact Box.new _ _ _ _ (by simp)
    have HB : Hid (Below w.heap.size w Wa) := by unfold Hid; rw [← hWa]; exact (one_al w _).alloc (by simp) _
    clear hWa
    refine (rest_c _).mono ?_
    rintro e wz ⟨A, a, k, hA, rfl, hrow, hb⟩
    have HA := hide hA
    have HROW := hide hrow
    have FRz := hide (FR.out.on hb)
    have HBz := hide (bt HB.out hb)
    have hBR := FR.out.lt
    obtain ⟨ll, hll⟩ : ∃ ll, ll = acL A (.slice a A.es.length k) := ⟨_, rfl⟩
    rw [← hll]
    have h8 : ll.toArray.size = 8 := by rw [hll]; rfl
    have HS8 : Hid ((Tryz.prog.info? 47).map (·.size) = some ll.length) := by unfold Hid; rw [hll]; exact Tryz.sizeAct
    have HSA : Hid ((Tryz.prog.info? 47).map (·.size) = some ll.toArray.size) := by unfold Hid; rw [hll]; exact Tryz.sizeAct
    have HTH : Hid (wz.there (w.heap.size + 1) 0 ll.toArray.size) := by unfold Hid; rw [h8]; exact FRz.out.there rfl
    have HON : Hid (ll.toArray.all (·.oneCell') = true) := by unfold Hid; rw [hll]; exact acL_one _
    have HLL := hide hll
    clear hll hA hrow hb
    go_wp2_with (refine wpList_store_mid rfl 47 (.tmp 2) (.tmp 14) rfl (w.heap.size + 1) 0 ll.toArray rfl rfl HTH.out HSA.out HON.out ?_; refine Hid.out ?_)
    generalize hW : World.setCells _ _ _ _ = W9
    have FR9 : Hid (Box W9 (w.heap.size + 1) ll.toArray) := by unfold Hid; rw [← hW]; exact FRz.out.full (cs' := ll.toArray) (by rw [h8]; rfl)
    have HB9 : Hid (Below w.heap.size w W9) := by unfold Hid; rw [← hW]; exact Below.sets (by omega) _ _ HBz.out
    have HER : Hid (ERow W9 w.heap.size (.slice a A.es.length k) A.es) := by unfold Hid; rw [← hW]; exact erow_sets HROW.out (by omega) (by omega)
    clear hW
    refine hide ?_
    go_wp2
    refine bodyPost_ret (v := .tuple #[.agg ll.toArray, .bool false]) (res_care (p := 2) (q := 3) (ty := 47) Tryz.results76 _ _ (w.heap.size + 1) ll false _ rfl rfl (FR9.out.range rfl) Tryz.underlying47 rfl HS8.out) rfl ?_
    rw [HE.out]
    exact ⟨A, a, k, HA.out, (by rw [HLL.out]; try rfl), HER.out, HB9.out⟩
  | false =>
  rw [hg] at g7
  by_cases h0 : n.ol = 0
  · have HE : Hid (imgI B x = none) := if_pos (Or.inr (by omega))
    have b0 : (n.ol == 0) = true := by rw [beq_iff_eq]; exact h0
    clear hol' h0
    go_wp2_with fail
    clear g7 g20
    generalize hWa : World.alloc (w.alloc _) _ = Wa
    have FX : Hid (Box Wa w.heap.size lk.toArray) := by unfold Hid; rw [← hWa]; exact (Box.new _ _ _ _ rfl).on (one_al _ _)
    have FR : Hid (Box Wa (w.heap.size + 1) zAct.toArray) := by unfold Hid; rw [← hWa]; exact Box.new _ _ _ _ (by simp)
    have HB : Hid (Below w.heap.size w Wa) := by unfold Hid; rw [← hWa]; exact (one_al w _).alloc (by simp) _
    clear hWa
    refine (rest_c _).mono ?_
    rintro e wz ⟨A, a, k, hA, rfl, hrow, hb⟩
    have HA := hide hA
    have HROW := hide hrow
    have FRz := hide (FR.out.on hb)
    have HBz := hide (bt HB.out hb)
    have hBR := FR.out.lt
    obtain ⟨ll, hll⟩ : ∃ ll, ll = acL A (.slice a A.es.length k) := ⟨_, rfl⟩
    rw [← hll]
    have h8 : ll.toArray.size = 8 := by rw [hll]; rfl
    have HS8 : Hid ((Tryz.prog.info? 47).map (·.size) = some ll.length) := by unfold Hid; rw [hll]; exact Tryz.sizeAct
    have HSA : Hid ((Tryz.prog.info? 47).map (·.size) = some ll.toArray.size) := by unfold Hid; rw [hll]; exact Tryz.sizeAct
    have HTH : Hid (wz.there (w.heap.size + 1) 0 ll.toArray.size) := by unfold Hid; rw [h8]; exact FRz.out.there rfl
    have HON : Hid (ll.toArray.all (·.oneCell') = true) := by unfold Hid; rw [hll]; exact acL_one _
    have HLL := hide hll
    clear hll hA hrow hb
    go_wp2_with (refine wpList_store_mid rfl 47 (.tmp 2) (.tmp 14) rfl (w.heap.size + 1) 0 ll.toArray rfl rfl HTH.out HSA.out HON.out ?_; refine Hid.out ?_)
    generalize hW : World.setCells _ _ _ _ = W9
    have FR9 : Hid (Box W9 (w.heap.size + 1) ll.toArray) := by unfold Hid; rw [← hW]; exact FRz.out.full (cs' := ll.toArray) (by rw [h8]; rfl)
    have HB9 : Hid (Below w.heap.size w W9) := by unfold Hid; rw [← hW]; exact Below.sets (by omega) _ _ HBz.out
    have HER : Hid (ERow W9 w.heap.size (.slice a A.es.length k) A.es) := by unfold Hid; rw [← hW]; exact erow_sets HROW.out (by omega) (by omega)
    clear hW
    refine hide ?_
    go_wp2
    refine bodyPost_ret (v := .tuple #[.agg ll.toArray, .bool false]) (res_care (p := 2) (q := 3) (ty := 47) Tryz.results76 _ _ (w.heap.size + 1) ll false _ rfl rfl (FR9.out.range rfl) Tryz.underlying47 rfl HS8.out) rfl ?_
    rw [HE.out]
    exact ⟨A, a, k, HA.out, (by rw [HLL.out]; try rfl), HER.out, HB9.out⟩
  have HE : Hid (imgI B x = replI B x (oldL B x)) := if_neg fun h => h.elim (fun h => by rw [hg] at h; cases h) (fun h => by omega)
  have b0 : (n.ol == 0) = false := by rw [beq_eq_false_iff_ne]; exact h0
  clear hol' h0
  go_wp2_with (refine wpList_load_mid rfl 105 (.tmp 1) rfl w.heap.size 0 rfl lk _ FX0.out.rng Tryz.underlying105 rfl HLK.out.size ?_)
  clear g7 g20
  generalize hWa : World.alloc (w.alloc _) _ = Wa
  have FX : Hid (Box Wa w.heap.size lk.toArray) := by unfold Hid; rw [← hWa]; exact (Box.new _ _ _ _ rfl).on (one_al _ _)
  have FR : Hid (Box Wa (w.heap.size + 1) zAct.toArray) := by unfold Hid; rw [← hWa]; exact Box.new _ _ _ _ (by simp)
  have HB : Hid (Below w.heap.size w Wa) := by unfold Hid; rw [← hWa]; exact (one_al w _).alloc (by simp) _
  clear hWa
  refine (replace_c lo m sv cv bv B x n d lk _ (fun c => c.im != x.im) 107 (.agg lk.toArray) HLK.out (HK.out.below HB.out) (HX.out.below HB.out) HV.out HSX.out HN.out HW.out ho (enters_of Tryz.func107 (by kernel_rfl) rfl) (fun W y hW => isOld_any m sv cv bv B x n d lk y.1 W HLK.out)).mono ?_
  rintro e wz ⟨A, a, k, hA, rfl, hrow, hb⟩
  have HA := hide hA
  have HROW := hide hrow
  have FRz := hide (FR.out.on hb)
  have HBz := hide (bt HB.out hb)
  have hBR := FR.out.lt
  obtain ⟨ll, hll⟩ : ∃ ll, ll = acL A (.slice a A.es.length k) := ⟨_, rfl⟩
  rw [← hll]
  have h8 : ll.toArray.size = 8 := by rw [hll]; rfl
  have HS8 : Hid ((Tryz.prog.info? 47).map (·.size) = some ll.length) := by unfold Hid; rw [hll]; exact Tryz.sizeAct
  have HSA : Hid ((Tryz.prog.info? 47).map (·.size) = some ll.toArray.size) := by unfold Hid; rw [hll]; exact Tryz.sizeAct
  have HTH : Hid (wz.there (w.heap.size + 1) 0 ll.toArray.size) := by unfold Hid; rw [h8]; exact FRz.out.there rfl
  have HON : Hid (ll.toArray.all (·.oneCell') = true) := by unfold Hid; rw [hll]; exact acL_one _
  have HLL := hide hll
  clear hll hA hrow hb
  go_wp2_with (refine wpList_store_mid rfl 47 (.tmp 2) (.tmp 20) rfl (w.heap.size + 1) 0 ll.toArray rfl rfl HTH.out HSA.out HON.out ?_; refine Hid.out ?_)
  generalize hW : World.setCells _ _ _ _ = W9
  have FR9 : Hid (Box W9 (w.heap.size + 1) ll.toArray) := by unfold Hid; rw [← hW]; exact FRz.out.full (cs' := ll.toArray) (by rw [h8]; rfl)
  have HB9 : Hid (Below w.heap.size w W9) := by unfold Hid; rw [← hW]; exact Below.sets (by omega) _ _ HBz.out
  have HER : Hid (ERow W9 w.heap.size (.slice a A.es.length k) A.es) := by unfold Hid; rw [← hW]; exact erow_sets HROW.out (by omega) (by omega)
  clear hW
  refine hide ?_
  go_wp2
  refine bodyPost_ret (v := .tuple #[.agg ll.toArray, .bool (replI B x (oldL B x)).isSome]) (res_care (p := 2) (q := 3) (ty := 47) Tryz.results76 _ _ (w.heap.size + 1) ll (replI B x (oldL B x)).isSome _ rfl rfl (FR9.out.range rfl) Tryz.underlying47 rfl HS8.out) rfl ?_
  rw [HE.out]
  exact ⟨A, a, k, HA.out, (by rw [HLL.out]; try rfl), HER.out, HB9.out⟩

set_option maxRecDepth 100000 in
set_option maxHeartbeats 8000000 in
theorem leaveDrained_c (hlk : LkIs lk m sv cv bv B x n d) (h : SbAt lo w sv cv bv B) (hx : IxAt w m B) (hv : validB B = true) (hsx : svF B.ss x.nm = some x) (hn : n.li = (((liveL B x.nm).length : Nat) : Int)) (hol : n.ol = (((oldL B x).length : Nat) : Int)) (hd : d = (((drL B x).length : Nat) : Int)) (hen : n.en = (ctL B.cs x.nm x.im).en) (hw : (0 ≤ x.wa ∧ x.wa ≤ 10) ∧ (0 ≤ x.dn ∧ x.dn ≤ 10)) (ho : 0 ≤ x.ov ∧ x.ov ≤ 10) :
    Calls Tryz.prog 80 #[.agg lk.toArray] w fun e w' => CareIs w (drnI B x) e w' := by
  have HLK := hide hlk
  have HK := hide h
  have HX := hide hx
  have HV := hide hv
  have HSX := hide hsx
  have HW := hide hw
  have HN := hide hn
  have HOL := hide hol
  have HD := hide hd
  have HEN := hide hen
  clear hlk h hv hx hsx hn hol hd hen
  go_enter Tryz.func80, Tryz.ntmps80
  have FX0 : Hid (Box ((w.alloc (.cells lk.toArray 105)).alloc (.cells zAct.toArray 47)) w.heap.size lk.toArray) := (Box.new _ _ _ _ rfl).on (one_al _ _)
  have g7 : ((w.alloc (.cells lk.toArray 105)).alloc (.cells zAct.toArray 47)).cell? ⟨w.heap.size, 7, none⟩ = some (.bool x.gn) := by rw [FX0.out.cell 7, HLK.out]; rfl
  have g20 : ((w.alloc (.cells lk.toArray 105)).alloc (.cells zAct.toArray 47)).cell? ⟨w.heap.size, 20, none⟩ = some (.int .i64 n.ol) := by rw [FX0.out.cell 20, HLK.out]; rfl
  have g23 : ((w.alloc (.cells lk.toArray 105)).alloc (.cells zAct.toArray 47)).cell? ⟨w.heap.size, 23, none⟩ = some (.int .i64 d) := by rw [FX0.out.cell 23, HLK.out]; rfl
  have hol' := HOL.out
  have hd' := HD.out
  cases hg : x.gn with
  | true =>
    have HE : Hid (drnI B x = none) := if_pos (Or.inl hg)
    rw [hg] at g7
    clear hol' hd'
    go_wp2_with fail
    clear g7 g20 g23
    generalize hWa : World.alloc (w.alloc _) _ = Wa
    have FX : Hid (Box Wa w.heap.size lk.toArray) := by unfold Hid; rw [← hWa]; exact (Box.new _ _ _ _ rfl).on (one_al _ _)
    have FR : Hid (Box Wa (w.heap.size + 1) zAct.toArray) := by unfold Hid; rw [← hWa]; exact Box.new _ _ _ _ (by simp)
    have HB : Hid (Below w.heap.size w Wa) := by unfold Hid; rw [← hWa]; exact (one_al w _).alloc (by simp) _
    clear hWa
    refine (rest_c _).mono ?_
    rintro e wz ⟨A, a, k, hA, rfl, hrow, hb⟩
    have HA := hide hA
    have HROW := hide hrow
    have FRz := hide (FR.out.on hb)
    have HBz := hide (bt HB.out hb)
    have hBR := FR.out.lt
    obtain ⟨ll, hll⟩ : ∃ ll, ll = acL A (.slice a A.es.length k) := ⟨_, rfl⟩
    rw [← hll]
    have h8 : ll.toArray.size = 8 := by rw [hll]; rfl
    have HS8 : Hid ((Tryz.prog.info? 47).map (·.size) = some ll.length) := by unfold Hid; rw [hll]; exact Tryz.sizeAct
    have HSA : Hid ((Tryz.prog.info? 47).map (·.size) = some ll.toArray.size) := by unfold Hid; rw [hll]; exact Tryz.sizeAct
    have HTH : Hid (wz.there (w.heap.size + 1) 0 ll.toArray.size) := by unfold Hid; rw [h8]; exact FRz.out.there rfl
    have HON : Hid (ll.toArray.all (·.oneCell') = true) := by unfold Hid; rw [hll]; exact acL_one _
    have HLL := hide hll
    clear hll hA hrow hb
    go_wp2_with (refine wpList_store_mid rfl 47 (.tmp 2) (.tmp 19) rfl (w.heap.size + 1) 0 ll.toArray rfl rfl HTH.out HSA.out HON.out ?_; refine Hid.out ?_)
    generalize hW : World.setCells _ _ _ _ = W9
    have FR9 : Hid (Box W9 (w.heap.size + 1) ll.toArray) := by unfold Hid; rw [← hW]; exact FRz.out.full (cs' := ll.toArray) (by rw [h8]; rfl)
    have HB9 : Hid (Below w.heap.size w W9) := by unfold Hid; rw [← hW]; exact Below.sets (by omega) _ _ HBz.out
    have HER : Hid (ERow W9 w.heap.size (.slice a A.es.length k) A.es) := by unfold Hid; rw [← hW]; exact erow_sets HROW.out (by omega) (by omega)
    clear hW
    refine hide ?_
    go_wp2
    refine bodyPost_ret (v := .tuple #[.agg ll.toArray, .bool false]) (res_care (p := 2) (q := 3) (ty := 47) Tryz.results80 _ _ (w.heap.size + 1) ll false _ rfl rfl (FR9.out.range rfl) Tryz.underlying47 rfl HS8.out) rfl ?_
    rw [HE.out]
    exact ⟨A, a, k, HA.out, (by rw [HLL.out]; try rfl), HER.out, HB9.out⟩
  | false =>
  rw [hg] at g7
  by_cases h0 : 0 < n.ol
  · have HE : Hid (drnI B x = none) := if_pos (Or.inr (Or.inl (by omega)))
    have b0 : decide (0 < n.ol) = true := decide_eq_true h0
    clear hol' hd' h0
    go_wp2_with fail
    clear g7 g20 g23
    generalize hWa : World.alloc (w.alloc _) _ = Wa
    have FX : Hid (Box Wa w.heap.size lk.toArray) := by unfold Hid; rw [← hWa]; exact (Box.new _ _ _ _ rfl).on (one_al _ _)
    have FR : Hid (Box Wa (w.heap.size + 1) zAct.toArray) := by unfold Hid; rw [← hWa]; exact Box.new _ _ _ _ (by simp)
    have HB : Hid (Below w.heap.size w Wa) := by unfold Hid; rw [← hWa]; exact (one_al w _).alloc (by simp) _
    clear hWa
    refine (rest_c _).mono ?_
    rintro e wz ⟨A, a, k, hA, rfl, hrow, hb⟩
    have HA := hide hA
    have HROW := hide hrow
    have FRz := hide (FR.out.on hb)
    have HBz := hide (bt HB.out hb)
    have hBR := FR.out.lt
    obtain ⟨ll, hll⟩ : ∃ ll, ll = acL A (.slice a A.es.length k) := ⟨_, rfl⟩
    rw [← hll]
    have h8 : ll.toArray.size = 8 := by rw [hll]; rfl
    have HS8 : Hid ((Tryz.prog.info? 47).map (·.size) = some ll.length) := by unfold Hid; rw [hll]; exact Tryz.sizeAct
    have HSA : Hid ((Tryz.prog.info? 47).map (·.size) = some ll.toArray.size) := by unfold Hid; rw [hll]; exact Tryz.sizeAct
    have HTH : Hid (wz.there (w.heap.size + 1) 0 ll.toArray.size) := by unfold Hid; rw [h8]; exact FRz.out.there rfl
    have HON : Hid (ll.toArray.all (·.oneCell') = true) := by unfold Hid; rw [hll]; exact acL_one _
    have HLL := hide hll
    clear hll hA hrow hb
    go_wp2_with (refine wpList_store_mid rfl 47 (.tmp 2) (.tmp 19) rfl (w.heap.size + 1) 0 ll.toArray rfl rfl HTH.out HSA.out HON.out ?_; refine Hid.out ?_)
    generalize hW : World.setCells _ _ _ _ = W9
    have FR9 : Hid (Box W9 (w.heap.size + 1) ll.toArray) := by unfold Hid; rw [← hW]; exact FRz.out.full (cs' := ll.toArray) (by rw [h8]; rfl)
    have HB9 : Hid (Below w.heap.size w W9) := by unfold Hid; rw [← hW]; exact Below.sets (by omega) _ _ HBz.out
    have HER : Hid (ERow W9 w.heap.size (.slice a A.es.length k) A.es) := by unfold Hid; rw [← hW]; exact erow_sets HROW.out (by omega) (by omega)
    clear hW
    refine hide ?_
    go_wp2
    refine bodyPost_ret (v := .tuple #[.agg ll.toArray, .bool false]) (res_care (p := 2) (q := 3) (ty := 47) Tryz.results80 _ _ (w.heap.size + 1) ll false _ rfl rfl (FR9.out.range rfl) Tryz.underlying47 rfl HS8.out) rfl ?_
    rw [HE.out]
    exact ⟨A, a, k, HA.out, (by rw [HLL.out]; try rfl), HER.out, HB9.out⟩
  have b0 : decide (0 < n.ol) = false := decide_eq_false h0
  by_cases h1 : d = 0
  · have HE : Hid (drnI B x = none) := if_pos (Or.inr (Or.inr (by omega)))
    have b1 : (d == 0) = true := by rw [beq_iff_eq]; exact h1
    clear hol' hd' h1
    go_wp2_with fail
    clear g7 g20 g23
    generalize hWa : World.alloc (w.alloc _) _ = Wa
    have FX : Hid (Box Wa w.heap.size lk.toArray) := by unfold Hid; rw [← hWa]; exact (Box.new _ _ _ _ rfl).on (one_al _ _)
    have FR : Hid (Box Wa (w.heap.size + 1) zAct.toArray) := by unfold Hid; rw [← hWa]; exact Box.new _ _ _ _ (by simp)
    have HB : Hid (Below w.heap.size w Wa) := by unfold Hid; rw [← hWa]; exact (one_al w _).alloc (by simp) _
    clear hWa
    refine (rest_c _).mono ?_
    rintro e wz ⟨A, a, k, hA, rfl, hrow, hb⟩
    have HA := hide hA
    have HROW := hide hrow
    have FRz := hide (FR.out.on hb)
    have HBz := hide (bt HB.out hb)
    have hBR := FR.out.lt
    obtain ⟨ll, hll⟩ : ∃ ll, ll = acL A (.slice a A.es.length k) := ⟨_, rfl⟩
    rw [← hll]
    have h8 : ll.toArray.size = 8 := by rw [hll]; rfl
    have HS8 : Hid ((Tryz.prog.info? 47).map (·.size) = some ll.length) := by unfold Hid; rw [hll]; exact Tryz.sizeAct
    have HSA : Hid ((Tryz.prog.info? 47).map (·.size) = some ll.toArray.size) := by unfold Hid; rw [hll]; exact Tryz.sizeAct
    have HTH : Hid (wz.there (w.heap.size + 1) 0 ll.toArray.size) := by unfold Hid; rw [h8]; exact FRz.out.there rfl
    have HON : Hid (ll.toArray.all (·.oneCell') = true) := by unfold Hid; rw [hll]; exact acL_one _
    have HLL := hide hll
    clear hll hA hrow hb
    go_wp2_with (refine wpList_store_mid rfl 47 (.tmp 2) (.tmp 19) rfl (w.heap.size + 1) 0 ll.toArray rfl rfl HTH.out HSA.out HON.out ?_; refine Hid.out ?_)
    generalize hW : World.setCells _ _ _ _ = W9
    have FR9 : Hid (Box W9 (w.heap.size + 1) ll.toArray) := by unfold Hid; rw [← hW]; exact FRz.out.full (cs' := ll.toArray) (by rw [h8]; rfl)
    have HB9 : Hid (Below w.heap.size w W9) := by unfold Hid; rw [← hW]; exact Below.sets (by omega) _ _ HBz.out
    have HER : Hid (ERow W9 w.heap.size (.slice a A.es.length k) A.es) := by unfold Hid; rw [← hW]; exact erow_sets HROW.out (by omega) (by omega)
    clear hW
    refine hide ?_
    go_wp2
    refine bodyPost_ret (v := .tuple #[.agg ll.toArray, .bool false]) (res_care (p := 2) (q := 3) (ty := 47) Tryz.results80 _ _ (w.heap.size + 1) ll false _ rfl rfl (FR9.out.range rfl) Tryz.underlying47 rfl HS8.out) rfl ?_
    rw [HE.out]
    exact ⟨A, a, k, HA.out, (by rw [HLL.out]; try rfl), HER.out, HB9.out⟩
  have HE : Hid (drnI B x = replI B x (drL B x)) := if_neg fun h => h.elim (fun h => by rw [hg] at h; cases h) (fun h => by omega)
  have b1 : (d == 0) = false := by rw [beq_eq_false_iff_ne]; exact h1
  clear hol' hd' h1
  go_wp2_with (refine wpList_load_mid rfl 105 (.tmp 1) rfl w.heap.size 0 rfl lk _ FX0.out.rng Tryz.underlying105 rfl HLK.out.size ?_)
  clear g7 g20 g23
  generalize hWa : World.alloc (w.alloc _) _ = Wa
  have FX : Hid (Box Wa w.heap.size lk.toArray) := by unfold Hid; rw [← hWa]; exact (Box.new _ _ _ _ rfl).on (one_al _ _)
  have FR : Hid (Box Wa (w.heap.size + 1) zAct.toArray) := by unfold Hid; rw [← hWa]; exact Box.new _ _ _ _ (by simp)
  have HB : Hid (Below w.heap.size w Wa) := by unfold Hid; rw [← hWa]; exact (one_al w _).alloc (by simp) _
  clear hWa
  refine (replace_c lo m sv cv bv B x n d lk _ (drB B) 74 (.agg lk.toArray) HLK.out (HK.out.below HB.out) (HX.out.below HB.out) HV.out HSX.out HN.out HW.out ho (enters_of Tryz.func74 (by kernel_rfl) rfl) (fun W y hW => onDrained_any lo m sv cv bv B x n d lk y.1 W HLK.out (HK.out.below (bt HB.out hW)) (HX.out.below (bt HB.out hW)) y.2 (valid_ris HV.out))).mono ?_
  rintro e wz ⟨A, a, k, hA, rfl, hrow, hb⟩
  have HA := hide hA
  have HROW := hide hrow
  have FRz := hide (FR.out.on hb)
  have HBz := hide (bt HB.out hb)
  have hBR := FR.out.lt
  obtain ⟨ll, hll⟩ : ∃ ll, ll = acL A (.slice a A.es.length k) := ⟨_, rfl⟩
  rw [← hll]
  have h8 : ll.toArray.size = 8 := by rw [hll]; rfl
  have HS8 : Hid ((Tryz.prog.info? 47).map (·.size) = some ll.length) := by unfold Hid; rw [hll]; exact Tryz.sizeAct
  have HSA : Hid ((Tryz.prog.info? 47).map (·.size) = some ll.toArray.size) := by unfold Hid; rw [hll]; exact Tryz.sizeAct
  have HTH : Hid (wz.there (w.heap.size + 1) 0 ll.toArray.size) := by unfold Hid; rw [h8]; exact FRz.out.there rfl
  have HON : Hid (ll.toArray.all (·.oneCell') = true) := by unfold Hid; rw [hll]; exact acL_one _
  have HLL := hide hll
  clear hll hA hrow hb
  go_wp2_with (refine wpList_store_mid rfl 47 (.tmp 2) (.tmp 25) rfl (w.heap.size + 1) 0 ll.toArray rfl rfl HTH.out HSA.out HON.out ?_; refine Hid.out ?_)
  generalize hW : World.setCells _ _ _ _ = W9
  have FR9 : Hid (Box W9 (w.heap.size + 1) ll.toArray) := by unfold Hid; rw [← hW]; exact FRz.out.full (cs' := ll.toArray) (by rw [h8]; rfl)
  have HB9 : Hid (Below w.heap.size w W9) := by unfold Hid; rw [← hW]; exact Below.sets (by omega) _ _ HBz.out
  have HER : Hid (ERow W9 w.heap.size (.slice a A.es.length k) A.es) := by unfold Hid; rw [← hW]; exact erow_sets HROW.out (by omega) (by omega)
  clear hW
  refine hide ?_
  go_wp2
  refine bodyPost_ret (v := .tuple #[.agg ll.toArray, .bool (replI B x (drL B x)).isSome]) (res_care (p := 2) (q := 3) (ty := 47) Tryz.results80 _ _ (w.heap.size + 1) ll (replI B x (drL B x)).isSome _ rfl rfl (FR9.out.range rfl) Tryz.underlying47 rfl HS8.out) rfl ?_
  rw [HE.out]
  exact ⟨A, a, k, HA.out, (by rw [HLL.out]; try rfl), HER.out, HB9.out⟩

set_option maxRecDepth 100000 in
set_option maxHeartbeats 8000000 in
theorem endFailed_c (hlk : LkIs lk m sv cv bv B x n d) (h : SbAt lo w sv cv bv B) (hx : IxAt w m B) (hv : validB B = true) (hsx : svF B.ss x.nm = some x) (hn : n.li = (((liveL B x.nm).length : Nat) : Int)) (hol : n.ol = (((oldL B x).length : Nat) : Int)) (hd : d = (((drL B x).length : Nat) : Int)) (hen : n.en = (ctL B.cs x.nm x.im).en) (hw : (0 ≤ x.wa ∧ x.wa ≤ 10) ∧ (0 ≤ x.dn ∧ x.dn ≤ 10)) (_ho : 0 ≤ x.ov ∧ x.ov ≤ 10) :
    Calls Tryz.prog 77 #[.agg lk.toArray] w fun e w' => CareIs w (allI x (failL B x)) e w' := by
  have HLK := hide hlk
  have HK := hide h
  have HX := hide hx
  have HV := hide hv
  have HSX := hide hsx
  have HW := hide hw
  have HN := hide hn
  have HOL := hide hol
  have HD := hide hd
  have HEN := hide hen
  clear hlk h hv hx hsx hn hol hd hen
  go_enter Tryz.func77, Tryz.ntmps77
  have FX0 : Hid (Box ((w.alloc (.cells lk.toArray 105)).alloc (.cells zAct.toArray 47)) w.heap.size lk.toArray) := (Box.new _ _ _ _ rfl).on (one_al _ _)
  have HE : Hid (allI x (failL B x) = allI x ((liveL B x.nm).filter fun c => c.st == 4)) := rfl
  go_wp2_with (refine wpList_load_mid rfl 105 (.tmp 1) rfl w.heap.size 0 rfl lk _ FX0.out.rng Tryz.underlying105 rfl HLK.out.size ?_)
  generalize hWa : World.alloc (w.alloc _) _ = Wa
  have FR : Hid (Box Wa (w.heap.size + 1) zAct.toArray) := by unfold Hid; rw [← hWa]; exact Box.new _ _ _ _ (by simp)
  have HB : Hid (Below w.heap.size w Wa) := by unfold Hid; rw [← hWa]; exact (one_al w _).alloc (by simp) _
  clear hWa FX0
  refine (endAll_c lo m sv cv bv B x n d lk _ (fun c => c.st == 4) 109 #[] #[] HLK.out (HK.out.below HB.out) HV.out (enters_of Tryz.func109 (by kernel_rfl) rfl) (fun W y hW => hasFailed_any W y.1)).mono ?_
  rintro e wz ⟨A, a, k, hA, rfl, hrow, hb⟩
  have HA := hide hA
  have HROW := hide hrow
  have FRz := hide (FR.out.on hb)
  have HBz := hide (bt HB.out hb)
  have hBR := FR.out.lt
  obtain ⟨ll, hll⟩ : ∃ ll, ll = acL A (.slice a A.es.length k) := ⟨_, rfl⟩
  rw [← hll]
  have h8 : ll.toArray.size = 8 := by rw [hll]; rfl
  have HS8 : Hid ((Tryz.prog.info? 47).map (·.size) = some ll.length) := by unfold Hid; rw [hll]; exact Tryz.sizeAct
  have HSA : Hid ((Tryz.prog.info? 47).map (·.size) = some ll.toArray.size) := by unfold Hid; rw [hll]; exact Tryz.sizeAct
  have HTH : Hid (wz.there (w.heap.size + 1) 0 ll.toArray.size) := by unfold Hid; rw [h8]; exact FRz.out.there rfl
  have HON : Hid (ll.toArray.all (·.oneCell') = true) := by unfold Hid; rw [hll]; exact acL_one _
  have HLL := hide hll
  clear hll hA hrow hb
  go_wp2_with (refine wpList_store_mid rfl 47 (.tmp 2) (.tmp 6) rfl (w.heap.size + 1) 0 ll.toArray rfl rfl HTH.out HSA.out HON.out ?_; refine Hid.out ?_)
  generalize hW : World.setCells _ _ _ _ = W9
  have FR9 : Hid (Box W9 (w.heap.size + 1) ll.toArray) := by unfold Hid; rw [← hW]; exact FRz.out.full (cs' := ll.toArray) (by rw [h8]; rfl)
  have HB9 : Hid (Below w.heap.size w W9) := by unfold Hid; rw [← hW]; exact Below.sets (by omega) _ _ HBz.out
  have HER : Hid (ERow W9 w.heap.size (.slice a A.es.length k) A.es) := by unfold Hid; rw [← hW]; exact erow_sets HROW.out (by omega) (by omega)
  clear hW
  refine hide ?_
  go_wp2
  refine bodyPost_ret (v := .tuple #[.agg ll.toArray, .bool (allI x ((liveL B x.nm).filter fun c => c.st == 4)).isSome]) (res_care (p := 2) (q := 3) (ty := 47) Tryz.results77 _ _ (w.heap.size + 1) ll (allI x ((liveL B x.nm).filter fun c => c.st == 4)).isSome _ rfl rfl (FR9.out.range rfl) Tryz.underlying47 rfl HS8.out) rfl ?_
  rw [HE.out]
  exact ⟨A, a, k, HA.out, (by rw [HLL.out]; try rfl), HER.out, HB9.out⟩

set_option maxRecDepth 100000 in
set_option maxHeartbeats 8000000 in
theorem clearAway_c (hlk : LkIs lk m sv cv bv B x n d) (h : SbAt lo w sv cv bv B) (hx : IxAt w m B) (hv : validB B = true) (hsx : svF B.ss x.nm = some x) (hn : n.li = (((liveL B x.nm).length : Nat) : Int)) (hol : n.ol = (((oldL B x).length : Nat) : Int)) (hd : d = (((drL B x).length : Nat) : Int)) (hen : n.en = (ctL B.cs x.nm x.im).en) (hw : (0 ≤ x.wa ∧ x.wa ≤ 10) ∧ (0 ≤ x.dn ∧ x.dn ≤ 10)) (_ho : 0 ≤ x.ov ∧ x.ov ≤ 10) :
    Calls Tryz.prog 79 #[.agg lk.toArray] w fun e w' => CareIs w (sweepI B x) e w' := by
  have HLK := hide hlk
  have HK := hide h
  have HX := hide hx
  have HV := hide hv
  have HSX := hide hsx
  have HW := hide hw
  have HN := hide hn
  have HOL := hide hol
  have HD := hide hd
  have HEN := hide hen
  clear hlk h hv hx hsx hn hol hd hen
  go_enter Tryz.func79, Tryz.ntmps79
  have FX0 : Hid (Box ((w.alloc (.cells lk.toArray 105)).alloc (.cells zAct.toArray 47)) w.heap.size lk.toArray) := (Box.new _ _ _ _ rfl).on (one_al _ _)
  have g7 : ((w.alloc (.cells lk.toArray 105)).alloc (.cells zAct.toArray 47)).cell? ⟨w.heap.size, 7, none⟩ = some (.bool x.gn) := by rw [FX0.out.cell 7, HLK.out]; rfl
  have g18 : ((w.alloc (.cells lk.toArray 105)).alloc (.cells zAct.toArray 47)).cell? ⟨w.heap.size, 18, none⟩ = some (.int .i64 n.li) := by rw [FX0.out.cell 18, HLK.out]; rfl
  have g22 : ((w.alloc (.cells lk.toArray 105)).alloc (.cells zAct.toArray 47)).cell? ⟨w.heap.size, 22, none⟩ = some (.int .i64 n.en) := by rw [FX0.out.cell 22, HLK.out]; rfl
  have hli := HN.out
  have hen' := HEN.out
  have h2 := live_len B x.nm x.im
  have h200 := live_200 HV.out x.nm (fun _ => true)
  rw [live_any] at h200
  have h3 : 0 ≤ n.en ∧ n.en ≤ 200 := by
    rw [hen']
    have := ct_len (endB x.nm) B.cs
    have h4 := (valid_cps HV.out).1
    have e : (ctL B.cs x.nm x.im).en = ct (endB x.nm) B.cs := rfl
    omega
  have hadd : IntKind.i64.wrap (n.li + n.en) = n.li + n.en := by rw [IntWalk.i64_left]; unfold wrap64; omega
  cases hg : x.gn with
  | false =>
    have HE : Hid (sweepI B x = none) := by unfold Hid sweepI; rw [hg]; rfl
    rw [hg] at g7
    clear hli hen' h2
    go_wp2_with fail
    clear g7 g18 g22
    generalize hWa : World.alloc (w.alloc _) _ = Wa
    have FX : Hid (Box Wa w.heap.size lk.toArray) := by unfold Hid; rw [← hWa]; exact (Box.new _ _ _ _ rfl).on (one_al _ _)
    have FR : Hid (Box Wa (w.heap.size + 1) zAct.toArray) := by unfold Hid; rw [← hWa]; exact Box.new _ _ _ _ (by simp)
    have HB : Hid (Below w.heap.size w Wa) := by unfold Hid; rw [← hWa]; exact (one_al w _).alloc (by simp) _
    clear hWa
    refine (rest_c _).mono ?_
    rintro e wz ⟨A, a, k, hA, rfl, hrow, hb⟩
    have HA := hide hA
    have HROW := hide hrow
    have FRz := hide (FR.out.on hb)
    have HBz := hide (bt HB.out hb)
    have hBR := FR.out.lt
    obtain ⟨ll, hll⟩ : ∃ ll, ll = acL A (.slice a A.es.length k) := ⟨_, rfl⟩
    rw [← hll]
    have h8 : ll.toArray.size = 8 := by rw [hll]; rfl
    have HS8 : Hid ((Tryz.prog.info? 47).map (·.size) = some ll.length) := by unfold Hid; rw [hll]; exact Tryz.sizeAct
    have HSA : Hid ((Tryz.prog.info? 47).map (·.size) = some ll.toArray.size) := by unfold Hid; rw [hll]; exact Tryz.sizeAct
    have HTH : Hid (wz.there (w.heap.size + 1) 0 ll.toArray.size) := by unfold Hid; rw [h8]; exact FRz.out.there rfl
    have HON : Hid (ll.toArray.all (·.oneCell') = true) := by unfold Hid; rw [hll]; exact acL_one _
    have HLL := hide hll
    clear hll hA hrow hb
    go_wp2_with (refine wpList_store_mid rfl 47 (.tmp 2) (.tmp 9) rfl (w.heap.size + 1) 0 ll.toArray rfl rfl HTH.out HSA.out HON.out ?_; refine Hid.out ?_)
    generalize hW : World.setCells _ _ _ _ = W9
    have FR9 : Hid (Box W9 (w.heap.size + 1) ll.toArray) := by unfold Hid; rw [← hW]; exact FRz.out.full (cs' := ll.toArray) (by rw [h8]; rfl)
    have HB9 : Hid (Below w.heap.size w W9) := by unfold Hid; rw [← hW]; exact Below.sets (by omega) _ _ HBz.out
    have HER : Hid (ERow W9 w.heap.size (.slice a A.es.length k) A.es) := by unfold Hid; rw [← hW]; exact erow_sets HROW.out (by omega) (by omega)
    clear hW
    refine hide ?_
    go_wp2
    refine bodyPost_ret (v := .tuple #[.agg ll.toArray, .bool false]) (res_care (p := 2) (q := 3) (ty := 47) Tryz.results79 _ _ (w.heap.size + 1) ll false _ rfl rfl (FR9.out.range rfl) Tryz.underlying47 rfl HS8.out) rfl ?_
    rw [HE.out]
    exact ⟨A, a, k, HA.out, (by rw [HLL.out]; try rfl), HER.out, HB9.out⟩
  | true =>
  rw [hg] at g7
  by_cases h0 : n.li + n.en = 0
  · have HE : Hid (sweepI B x = some { ac0 x with dp := true }) := by unfold Hid sweepI; rw [hg, if_neg (by simp), if_pos (by omega)]
    have b0 : (n.li + n.en == 0) = true := by rw [beq_iff_eq]; exact h0
    clear hli hen' h2 h0
    go_wp2_with (refine wpList_load_mid rfl 105 (.tmp 1) rfl w.heap.size 0 rfl lk _ FX0.out.rng Tryz.underlying105 rfl HLK.out.size ?_)
    clear g7 g18 g22
    generalize hWa : World.alloc (w.alloc _) _ = Wa
    have FX : Hid (Box Wa w.heap.size lk.toArray) := by unfold Hid; rw [← hWa]; exact (Box.new _ _ _ _ rfl).on (one_al _ _)
    have FR : Hid (Box Wa (w.heap.size + 1) zAct.toArray) := by unfold Hid; rw [← hWa]; exact Box.new _ _ _ _ (by simp)
    have HB : Hid (Below w.heap.size w Wa) := by unfold Hid; rw [← hWa]; exact (one_al w _).alloc (by simp) _
    clear hWa
    refine (drop_c m sv cv bv B x n d lk _ HLK.out).mono ?_
    rintro e wz ⟨A, a, k, hA, rfl, hrow, hb⟩
    have HA := hide hA
    have HROW := hide hrow
    have FRz := hide (FR.out.on hb)
    have HBz := hide (bt HB.out hb)
    have hBR := FR.out.lt
    obtain ⟨ll, hll⟩ : ∃ ll, ll = acL A (.slice a A.es.length k) := ⟨_, rfl⟩
    rw [← hll]
    have h8 : ll.toArray.size = 8 := by rw [hll]; rfl
    have HS8 : Hid ((Tryz.prog.info? 47).map (·.size) = some ll.length) := by unfold Hid; rw [hll]; exact Tryz.sizeAct
    have HSA : Hid ((Tryz.prog.info? 47).map (·.size) = some ll.toArray.size) := by unfold Hid; rw [hll]; exact Tryz.sizeAct
    have HTH : Hid (wz.there (w.heap.size + 1) 0 ll.toArray.size) := by unfold Hid; rw [h8]; exact FRz.out.there rfl
    have HON : Hid (ll.toArray.all (·.oneCell') = true) := by unfold Hid; rw [hll]; exact acL_one _
    have HLL := hide hll
    clear hll hA hrow hb
    go_wp2_with (refine wpList_store_mid rfl 47 (.tmp 2) (.tmp 21) rfl (w.heap.size + 1) 0 ll.toArray rfl rfl HTH.out HSA.out HON.out ?_; refine Hid.out ?_)
    generalize hW : World.setCells _ _ _ _ = W9
    have FR9 : Hid (Box W9 (w.heap.size + 1) ll.toArray) := by unfold Hid; rw [← hW]; exact FRz.out.full (cs' := ll.toArray) (by rw [h8]; rfl)
    have HB9 : Hid (Below w.heap.size w W9) := by unfold Hid; rw [← hW]; exact Below.sets (by omega) _ _ HBz.out
    have HER : Hid (ERow W9 w.heap.size (.slice a A.es.length k) A.es) := by unfold Hid; rw [← hW]; exact erow_sets HROW.out (by omega) (by omega)
    clear hW
    refine hide ?_
    go_wp2
    refine bodyPost_ret (v := .tuple #[.agg ll.toArray, .bool true]) (res_care (p := 2) (q := 3) (ty := 47) Tryz.results79 _ _ (w.heap.size + 1) ll true _ rfl rfl (FR9.out.range rfl) Tryz.underlying47 rfl HS8.out) rfl ?_
    rw [HE.out]
    exact ⟨A, a, k, HA.out, (by rw [HLL.out]; try rfl), HER.out, HB9.out⟩
  have HE : Hid (sweepI B x = allI x ((liveL B x.nm).filter fun _ => true)) := by unfold Hid sweepI; rw [hg, if_neg (by simp), if_neg (by omega), live_any]
  have b0 : (n.li + n.en == 0) = false := by rw [beq_eq_false_iff_ne]; exact h0
  clear hli hen' h2 h0
  go_wp2_with (refine wpList_load_mid rfl 105 (.tmp 1) rfl w.heap.size 0 rfl lk _ FX0.out.rng Tryz.underlying105 rfl HLK.out.size ?_)
  clear g7 g18 g22
  generalize hWa : World.alloc (w.alloc _) _ = Wa
  have FX : Hid (Box Wa w.heap.size lk.toArray) := by unfold Hid; rw [← hWa]; exact (Box.new _ _ _ _ rfl).on (one_al _ _)
  have FR : Hid (Box Wa (w.heap.size + 1) zAct.toArray) := by unfold Hid; rw [← hWa]; exact Box.new _ _ _ _ (by simp)
  have HB : Hid (Below w.heap.size w Wa) := by unfold Hid; rw [← hWa]; exact (one_al w _).alloc (by simp) _
  clear hWa
  refine (endAll_c lo m sv cv bv B x n d lk _ (fun _ => true) 102 #[] #[] HLK.out (HK.out.below HB.out) HV.out (enters_of Tryz.func102 (by kernel_rfl) rfl) (fun W y hW => stewAny_any W y.1)).mono ?_
  rintro e wz ⟨A, a, k, hA, rfl, hrow, hb⟩
  have HA := hide hA
  have HROW := hide hrow
  have FRz := hide (FR.out.on hb)
  have HBz := hide (bt HB.out hb)
  have hBR := FR.out.lt
  obtain ⟨ll, hll⟩ : ∃ ll, ll = acL A (.slice a A.es.length k) := ⟨_, rfl⟩
  rw [← hll]
  have h8 : ll.toArray.size = 8 := by rw [hll]; rfl
  have HS8 : Hid ((Tryz.prog.info? 47).map (·.size) = some ll.length) := by unfold Hid; rw [hll]; exact Tryz.sizeAct
  have HSA : Hid ((Tryz.prog.info? 47).map (·.size) = some ll.toArray.size) := by unfold Hid; rw [hll]; exact Tryz.sizeAct
  have HTH : Hid (wz.there (w.heap.size + 1) 0 ll.toArray.size) := by unfold Hid; rw [h8]; exact FRz.out.there rfl
  have HON : Hid (ll.toArray.all (·.oneCell') = true) := by unfold Hid; rw [hll]; exact acL_one _
  have HLL := hide hll
  clear hll hA hrow hb
  go_wp2_with (refine wpList_store_mid rfl 47 (.tmp 2) (.tmp 25) rfl (w.heap.size + 1) 0 ll.toArray rfl rfl HTH.out HSA.out HON.out ?_; refine Hid.out ?_)
  generalize hW : World.setCells _ _ _ _ = W9
  have FR9 : Hid (Box W9 (w.heap.size + 1) ll.toArray) := by unfold Hid; rw [← hW]; exact FRz.out.full (cs' := ll.toArray) (by rw [h8]; rfl)
  have HB9 : Hid (Below w.heap.size w W9) := by unfold Hid; rw [← hW]; exact Below.sets (by omega) _ _ HBz.out
  have HER : Hid (ERow W9 w.heap.size (.slice a A.es.length k) A.es) := by unfold Hid; rw [← hW]; exact erow_sets HROW.out (by omega) (by omega)
  clear hW
  refine hide ?_
  go_wp2
  refine bodyPost_ret (v := .tuple #[.agg ll.toArray, .bool (allI x ((liveL B x.nm).filter fun _ => true)).isSome]) (res_care (p := 2) (q := 3) (ty := 47) Tryz.results79 _ _ (w.heap.size + 1) ll (allI x ((liveL B x.nm).filter fun _ => true)).isSome _ rfl rfl (FR9.out.range rfl) Tryz.underlying47 rfl HS8.out) rfl ?_
  rw [HE.out]
  exact ⟨A, a, k, HA.out, (by rw [HLL.out]; try rfl), HER.out, HB9.out⟩

end
end Go.Proofs.YtpdlcccnlciecaaGreat
namespace Go.Proofs.YtpdlcccnlciecaaGreat
open Go.RowKit Go.Deep

theorem markEns_two (lo hi : Nat) (v : Value) (Xl : List En) (k : Int) (w : World) (hv : EnsOwn lo hi w v Xl) (hn : EnsSmall Xl) (h0 : 0 ≤ k) (hk : k ≤ 2000000000000000000) :
    Calls Tryz.prog 32 #[v, .int .i64 k] w fun e w' => e = .returned (.int .i64 (k + 2 * (Xl.length : Int))) ∧ Touch lo hi w w' ∧ EnsOwn lo hi w' v (mkEns k Xl) := by
  have := markEns_any lo hi v Xl k w hv hn h0 hk
  rw [posEn_all2] at this
  simpa using this

set_option maxRecDepth 20000 in
set_option maxHeartbeats 8000000 in
theorem markAcs_any (lo hi : Nat) (v : Value) (Xl : List Ac) (k : Int) (w : World) (hv : AcsOwn lo hi w v Xl) (hn : AcsSmall Xl) (h0 : 0 ≤ k) (hk : k ≤ 1900000000000000000) :
    Calls Tryz.prog 11 #[v, .int .i64 k] w fun e w' => e = .returned (.int .i64 (k + (posAc Xl Xl.length : Int))) ∧ Touch lo hi w w' ∧ AcsOwn lo hi w' v (mkAcs k Xl) := by
  rcases hv with ⟨a, cap, rfl, rfl⟩ | ⟨b, off, cap, c, X, rfl, hne, hm, hcap, hX, hR⟩
  · go_enter Tryz.func11, Tryz.ntmps11
    go_wp2
    go_loop [5, 1] (fun i q => i = .int .i64 0 ∧ q = .int .i64 k) (fun _ _ => 0)
    case atStart => exact ⟨rfl, rfl⟩
    case round =>
      obtain ⟨rfl, rfl⟩ := hrel
      go_wp2
      go_ret
      exact ⟨by simp [posAc], Touch.refl _ _ _, Or.inl ⟨_, _, rfl, rfl⟩⟩
  · have hlen := hn.1
    have HN := hide hn
    have HX := hide hX
    have HR0 := hide hR
    have HM := hide hm
    have HC := hide hcap
    have HNE := hide hne
    clear hn hX hR hm hcap hne
    go_enter Tryz.func11, Tryz.ntmps11
    go_wp2
    go_loopw [5, 1] (fun i q wr => ∃ j : Nat, i = .int .i64 j ∧ q = .int .i64 (k + (posAc Xl j : Int)) ∧ j ≤ Xl.length ∧ Touch lo hi w wr ∧ AcRow lo hi wr b off Xl.length c (fun i => if i < j then mkAc (k + (posAc Xl i : Int)) (X i) else X i)) (fun i _ _ => Xl.length - (intOf i).toNat)
    case atStart => exact ⟨0, rfl, by simp [posAc], by omega, Touch.refl _ _ _, HR0.out.to (fun i _ => by simp)⟩
    case round =>
      obtain ⟨j, rfl, rfl, hj, ht, hr⟩ := hrel
      have HT := hide ht
      have HR := hide hr
      clear ht hr HR0
      by_cases hlt : j < Xl.length
      · have hpos := posAc_le HN.out (i := j) (by omega)
        have HP := hide (posAc_succ hlt)
        have hone : AcOne b (off + j * 8) (c j).1 (c j).2 wr (X j) := by
          have := HR.out.row j hlt
          simp only [Nat.lt_irrefl, if_false] at this
          exact this
        have hxj : X j = Xl[j] := HX.out j hlt
        obtain ⟨x, hx⟩ : ∃ x, x = X j := ⟨_, rfl⟩
        rw [← hx] at hone
        obtain ⟨hs, vv0, q0, hc, l0⟩ := hone
        have hs0 : EnsSmall x.es := by rw [hx, hxj]; exact HN.out.2 j hlt
        have hs0n := hs0.1
        have HXJ := hide hxj
        have HXX := hide hx
        obtain ⟨K, hK⟩ : ∃ K, K = k + (posAc Xl j : Int) := ⟨_, rfl⟩
        rw [← hK]
        have hK0 : 0 ≤ K := by omega
        have hK1 : K ≤ 1950000000000000000 := by omega
        have HK := hide hK
        have HBC : Hid (b < (c j).1 ∨ (c j).2 ≤ b) := (HR.out.seg j hlt).2.2
        have HS : Hid (AcSt wr b (off + j * 8) (c j).1 (c j).2 vv0 wr x) := ⟨Near.refl _ _ _ _ _ _, HBC.out, q0, hc, l0, HR.out.frz, HR.out.lt⟩
        clear hpos hxj hx hs hc l0 q0 hK
        obtain ⟨d0, d1, d2, d3, d4, d5, d6, d7⟩ := HS.out.cells
        have fz := HS.out.frz
        go_wp2_with fail
        clear d0 d1 d2 d3 d4 d5 d6 d7 fz
        refine (markText_any _ _ (by omega)).mono ?_
        rintro e v1 ⟨rfl, hb⟩
        have HS1 := hide (HS.out.below hb)
        clear hb HS
        obtain ⟨d0, d1, d2, d3, d4, d5, d6, d7⟩ := HS1.out.cells
        have fz := HS1.out.frz
        go_wp2_with fail
        clear d0 d1 d2 d3 d4 d5 d6 d7 fz
        obtain ⟨v2, hv2, HS2⟩ : ∃ v', v' = ((((((v1.setCell ⟨b, off + j * 8, none⟩ (.string (mtB (K)))).setCell ⟨b, off + j * 8 + 1, none⟩ (.int .i64 (K + 1))).setCell ⟨b, off + j * 8 + 2, none⟩ (.int .i64 (K + 1 + 1))).setCell ⟨b, off + j * 8 + 3, none⟩ (.int .i64 (K + 1 + 1 + 1))).setCell ⟨b, off + j * 8 + 4, none⟩ (.int .i64 (K + 1 + 1 + 1 + 1))).setCell ⟨b, off + j * 8 + 5, none⟩ (.bool (((K + 1 + 1 + 1 + 1 + 1) % 3 == 0)))) ∧ Hid (AcSt wr b (off + j * 8) (c j).1 (c j).2 vv0 v' ⟨mtB (K), K + 1, K + 1 + 1, K + 1 + 1 + 1, K + 1 + 1 + 1 + 1, ((K + 1 + 1 + 1 + 1 + 1) % 3 == 0), x.es, x.dp⟩) := ⟨_, rfl, ((((((HS1.out.s0 (mtB (K))).s1 (K + 1)).s2 (K + 1 + 1)).s3 (K + 1 + 1 + 1)).s4 (K + 1 + 1 + 1 + 1)).s5 (((K + 1 + 1 + 1 + 1 + 1) % 3 == 0)))⟩
        rw [← hv2]
        clear hv2 HS1
        refine (markEns_two _ _ _ x.es _ _ HS2.out.l0 hs0 (by omega) (by omega)).mono ?_
        rintro e v3 ⟨rfl, ht, hl⟩
        have HS3 : Hid (AcSt wr b (off + j * 8) (c j).1 (c j).2 vv0 v3 ⟨mtB (K), K + 1, K + 1 + 1, K + 1 + 1 + 1, K + 1 + 1 + 1 + 1, ((K + 1 + 1 + 1 + 1 + 1) % 3 == 0), mkEns (K + 1 + 1 + 1 + 1 + 1 + 1) x.es, x.dp⟩) := HS2.out.m0' ht hl
        clear ht hl HS2
        obtain ⟨d0, d1, d2, d3, d4, d5, d6, d7⟩ := HS3.out.cells
        have fz := HS3.out.frz
        go_wp2
        clear d0 d1 d2 d3 d4 d5 d6 d7 fz
        obtain ⟨v4, hv4, HS4⟩ : ∃ v', v' = (v3.setCell ⟨b, off + j * 8 + 7, none⟩ (.bool (((K + 1 + 1 + 1 + 1 + 1 + 1 + 2 * (x.es.length : Int)) % 3 == 0)))) ∧ Hid (AcSt wr b (off + j * 8) (c j).1 (c j).2 vv0 v' ⟨mtB (K), K + 1, K + 1 + 1, K + 1 + 1 + 1, K + 1 + 1 + 1 + 1, ((K + 1 + 1 + 1 + 1 + 1) % 3 == 0), mkEns (K + 1 + 1 + 1 + 1 + 1 + 1) x.es, ((K + 1 + 1 + 1 + 1 + 1 + 1 + 2 * (x.es.length : Int)) % 3 == 0)⟩) := ⟨_, rfl, (HS3.out.s7 (((K + 1 + 1 + 1 + 1 + 1 + 1 + 2 * (x.es.length : Int)) % 3 == 0)))⟩
        rw [← hv4]
        clear hv4 HS3
        have HW : Hid (wdAc Xl[j] = 7 + 2 * x.es.length) := by unfold Hid; rw [← HXJ.out, ← HXX.out]; rfl
        have HQ : Hid ((K + 1 + 1 + 1 + 1 + 1 + 1 + 2 * (x.es.length : Int) + 1 : Int) = k + (posAc Xl (j + 1) : Int)) := by
          have h1 := HP.out
          have h2 := HW.out
          have h3 := HK.out
          unfold Hid
          omega
        have HRN := hide (HR.out.near hlt HS4.out.near (show AcOne b (off + j * 8) (c j).1 (c j).2 v4 (mkAc K x) from ⟨⟨mt_size _ (by omega)⟩, _, HS4.out.q0, HS4.out.cells, HS4.out.l0⟩))
        have HTN := hide (HS4.out.near.wide HR.out.lt (lo' := lo) (hi' := hi) (HR.out.seg j hlt).1 (HR.out.seg j hlt).2.1 ⟨HR.out.low, HR.out.bh⟩)
        go_roundw
        case rel =>
          refine ⟨j + 1, by go_num, congrArg (Value.int .i64) HQ.out, by omega, HT.out.trans HTN.out, HRN.out.to (fun i hi' => ?_)⟩
          by_cases e : i = j
          · subst e
            rw [if_pos rfl, if_pos (by omega), ← HK.out, HXX.out]
          · rw [if_neg e]
            by_cases e2 : i < j
            · rw [if_pos e2, if_pos (by omega)]
            · rw [if_neg e2, if_neg (by omega)]
        case measure => simp [intOf]; omega
      · have e : j = Xl.length := by omega
        subst e
        go_wp2
        go_ret
        refine ⟨rfl, HT.out, Or.inr ⟨b, off, cap, c, fun i => mkAc (k + (posAc Xl i : Int)) (X i), by rw [mkAcs_len], ?_, by rw [mkAcs_len]; exact HM.out, by rw [mkAcs_len]; exact HC.out, fun i h => ?_, ?_⟩⟩
        · intro e
          have := congrArg List.length e
          rw [mkAcs_len] at this
          exact HNE.out (List.length_eq_zero_iff.1 (by simpa using this))
        · have h' : i < Xl.length := by rw [mkAcs_len] at h; exact h
          rw [mkAcs_get _ _ _ _ h', ← HX.out i h']
        · rw [mkAcs_len]
          exact HR.out.to (fun i hi' => by rw [if_pos hi'])
end Go.Proofs.YtpdlcccnlciecaaGreat
namespace Go.Proofs.YtpdlcccnlciecaaGreat
open Go.RowKit Go.Deep

theorem heldEns_two (lo hi : Nat) (v : Value) (Xl : List En) (k : Int) (w : World) (hv : EnsOwn lo hi w v (mkEns k Xl)) (hn : EnsSmall Xl) (h0 : 0 ≤ k) (hk : k ≤ 2000000000000000000) :
    Calls Tryz.prog 33 #[v, .int .i64 k] w fun e w' => e = .returned (.int .i64 (k + 2 * (Xl.length : Int))) ∧ Below w.heap.size w w' := by
  have := heldEns_any lo hi v Xl k w hv hn h0 hk
  rw [posEn_all2] at this
  simpa using this

theorem AcsOwn.fullO {lo hi : Nat} {w : World} {a : Option Addr} {n cap : Nat} {Xl : List Ac} (h : AcsOwn lo hi w (.slice a n cap) Xl) (hL : 0 < Xl.length) :
    ∃ b off, a = some ⟨b, off, none⟩ ∧ b < w.heap.size ∧ ∀ i (h : i < Xl.length), ∃ l0 u0 vv0, AcCells w b (off + i * 8) Xl[i] vv0 ∧ EnsOwn l0 u0 w vv0 Xl[i].es := by
  rcases h with ⟨a', cap', h, rfl⟩ | ⟨b, off, cap', c, X, h1, h2, h3, h4, h5, h6⟩
  · simp at hL
  · injection h1 with e1 e2 e3
    refine ⟨b, off, e1, h6.lt, fun i hi' => ?_⟩
    have hr := h6.row i hi'
    rw [h5 i hi'] at hr
    obtain ⟨hs, vv0, q0, hc, l0⟩ := hr
    exact ⟨_, _, vv0, hc, l0⟩
set_option maxRecDepth 20000 in
set_option maxHeartbeats 8000000 in
theorem heldAcs_any (lo hi : Nat) (v : Value) (Xl : List Ac) (k : Int) (w : World) (hv : AcsOwn lo hi w v (mkAcs k Xl)) (hn : AcsSmall Xl) (h0 : 0 ≤ k) (hk : k ≤ 1900000000000000000) :
    Calls Tryz.prog 12 #[v, .int .i64 k] w fun e w' => e = .returned (.int .i64 (k + (posAc Xl Xl.length : Int))) ∧ Below w.heap.size w w' := by
  have HA := hide hv
  have HN := hide hn
  have hlen := hn.1
  obtain ⟨a, cap, hv'⟩ := hv.form
  rw [mkAcs_len] at hv'
  subst hv'
  clear hv hn
  go_enter Tryz.func12, Tryz.ntmps12
  go_wp2
  go_loopw [5, 1] (fun i q wr => ∃ j : Nat, i = .int .i64 j ∧ q = .int .i64 (k + (posAc Xl j : Int)) ∧ j ≤ Xl.length ∧ Below w.heap.size w wr) (fun i _ _ => Xl.length - (intOf i).toNat)
  case atStart => exact ⟨0, rfl, by simp [posAc], by omega, Below.refl _ _⟩
  case round =>
    obtain ⟨j, rfl, rfl, hj, hb⟩ := hrel
    have HB0 := hide hb
    clear hb
    by_cases hlt : j < Xl.length
    · obtain ⟨b, off, rfl, hbw, hc⟩ := HA.out.fullO (by rw [mkAcs_len]; omega)
      have hcj := hc j (by rw [mkAcs_len]; omega)
      rw [mkAcs_get _ _ _ _ hlt] at hcj
      have hpos := posAc_le HN.out (i := j) (by omega)
      have HP := hide (posAc_succ hlt)
      obtain ⟨x, hx⟩ : ∃ x, x = Xl[j] := ⟨_, rfl⟩
      rw [← hx] at hcj
      have hs0 : EnsSmall x.es := by rw [hx]; exact HN.out.2 j hlt
      have hs0n := hs0.1
      have HXX := hide hx
      obtain ⟨K, hK⟩ : ∃ K, K = k + (posAc Xl j : Int) := ⟨_, rfl⟩
      rw [← hK] at hcj
      rw [← hK]
      have hK0 : 0 ≤ K := by omega
      have hK1 : K ≤ 1950000000000000000 := by omega
      have HK := hide hK
      obtain ⟨l0, u0, vv0, hcl, g0⟩ := hcj
      have HC := hide hcl
      have HL0 : Hid (EnsOwn l0 u0 w vv0 (mkEns (K + 1 + 1 + 1 + 1 + 1 + 1) x.es)) := g0
      obtain ⟨va0, vc0, rfl⟩ := HL0.out.form
      rw [mkEns_len] at HC HL0
      clear hc hcl hx hK hpos
      have d0 : wr.cell? ⟨b, off + j * 8, none⟩ = some (.string (mtB (K))) := (HC.out.below HB0.out hbw).c0
      have d1 : wr.cell? ⟨b, off + j * 8 + 1, none⟩ = some (.int .i64 (K + 1)) := (HC.out.below HB0.out hbw).c1
      have d2 : wr.cell? ⟨b, off + j * 8 + 2, none⟩ = some (.int .i64 (K + 1 + 1)) := (HC.out.below HB0.out hbw).c2
      have d3 : wr.cell? ⟨b, off + j * 8 + 3, none⟩ = some (.int .i64 (K + 1 + 1 + 1)) := (HC.out.below HB0.out hbw).c3
      have d4 : wr.cell? ⟨b, off + j * 8 + 4, none⟩ = some (.int .i64 (K + 1 + 1 + 1 + 1)) := (HC.out.below HB0.out hbw).c4
      have d5 : wr.cell? ⟨b, off + j * 8 + 5, none⟩ = some (.bool ((K + 1 + 1 + 1 + 1 + 1) % 3 == 0)) := (HC.out.below HB0.out hbw).c5
      have d6 : wr.cell? ⟨b, off + j * 8 + 6, none⟩ = some (.slice va0 x.es.length vc0) := (HC.out.below HB0.out hbw).c6
      have d7 : wr.cell? ⟨b, off + j * 8 + 7, none⟩ = some (.bool ((K + 1 + 1 + 1 + 1 + 1 + 1 + 2 * (x.es.length : Int)) % 3 == 0)) := (HC.out.below HB0.out hbw).c7
      have x0 : ∀ X : In (Up wr), X.w.cell? ⟨b, off + j * 8, none⟩ = some (.string (mtB (K))) := fun X => Up.cell X d0
      have xn : Nonempty (In (Up wr)) := ⟨⟨wr, Below.refl _ _⟩⟩
      have xs := fun (X : In (Up wr)) => in_self X
      go_wp2
      clear d0 d1 d2 d3 d4 d5 d6 d7
      refine wp_region_class (Up wr) (by kernel_rfl) (by kernel_rfl) ((Below.refl _ _).drew) ?_
      repeat (go_big_quiet_step (first | (go_at_call 31; rename_i X; exact (markText_any _ _ (by omega)).mono fun _ _ h => ⟨h.1, Up.next X h.2⟩)))
      refine wpQuiet_nil ?_
      intro w1 hw
      obtain ⟨Y, hY⟩ := hw
      have HB1 : Hid (Below w.heap.size w w1) := HB0.out.trans (Below.mono (show Below wr.heap.size wr w1 by rw [hY]; exact Y.h) HB0.out.size)
      clear hY Y x0 xs xn HB0
      have d0 : w1.cell? ⟨b, off + j * 8, none⟩ = some (.string (mtB (K))) := (HC.out.below HB1.out hbw).c0
      have d1 : w1.cell? ⟨b, off + j * 8 + 1, none⟩ = some (.int .i64 (K + 1)) := (HC.out.below HB1.out hbw).c1
      have d2 : w1.cell? ⟨b, off + j * 8 + 2, none⟩ = some (.int .i64 (K + 1 + 1)) := (HC.out.below HB1.out hbw).c2
      have d3 : w1.cell? ⟨b, off + j * 8 + 3, none⟩ = some (.int .i64 (K + 1 + 1 + 1)) := (HC.out.below HB1.out hbw).c3
      have d4 : w1.cell? ⟨b, off + j * 8 + 4, none⟩ = some (.int .i64 (K + 1 + 1 + 1 + 1)) := (HC.out.below HB1.out hbw).c4
      have d5 : w1.cell? ⟨b, off + j * 8 + 5, none⟩ = some (.bool ((K + 1 + 1 + 1 + 1 + 1) % 3 == 0)) := (HC.out.below HB1.out hbw).c5
      have d6 : w1.cell? ⟨b, off + j * 8 + 6, none⟩ = some (.slice va0 x.es.length vc0) := (HC.out.below HB1.out hbw).c6
      have d7 : w1.cell? ⟨b, off + j * 8 + 7, none⟩ = some (.bool ((K + 1 + 1 + 1 + 1 + 1 + 1 + 2 * (x.es.length : Int)) % 3 == 0)) := (HC.out.below HB1.out hbw).c7
      go_wp2_with fail
      clear d0 d1 d2 d3 d4 d5 d6 d7
      refine (heldEns_two _ _ _ x.es _ _ (HL0.out.below HB1.out) hs0 (by omega) (by omega)).mono ?_
      rintro e w2 ⟨rfl, hb⟩
      have HB2 : Hid (Below w.heap.size w w2) := HB1.out.trans (hb.mono HB1.out.size)
      clear hb HB1
      have hg6 : decide (K + 1 + 1 + 1 + 1 + 1 + 1 + 2 * (x.es.length : Int) < 0) = false := by simp; omega
      have d0 : w2.cell? ⟨b, off + j * 8, none⟩ = some (.string (mtB (K))) := (HC.out.below HB2.out hbw).c0
      have d1 : w2.cell? ⟨b, off + j * 8 + 1, none⟩ = some (.int .i64 (K + 1)) := (HC.out.below HB2.out hbw).c1
      have d2 : w2.cell? ⟨b, off + j * 8 + 2, none⟩ = some (.int .i64 (K + 1 + 1)) := (HC.out.below HB2.out hbw).c2
      have d3 : w2.cell? ⟨b, off + j * 8 + 3, none⟩ = some (.int .i64 (K + 1 + 1 + 1)) := (HC.out.below HB2.out hbw).c3
      have d4 : w2.cell? ⟨b, off + j * 8 + 4, none⟩ = some (.int .i64 (K + 1 + 1 + 1 + 1)) := (HC.out.below HB2.out hbw).c4
      have d5 : w2.cell? ⟨b, off + j * 8 + 5, none⟩ = some (.bool ((K + 1 + 1 + 1 + 1 + 1) % 3 == 0)) := (HC.out.below HB2.out hbw).c5
      have d6 : w2.cell? ⟨b, off + j * 8 + 6, none⟩ = some (.slice va0 x.es.length vc0) := (HC.out.below HB2.out hbw).c6
      have d7 : w2.cell? ⟨b, off + j * 8 + 7, none⟩ = some (.bool ((K + 1 + 1 + 1 + 1 + 1 + 1 + 2 * (x.es.length : Int)) % 3 == 0)) := (HC.out.below HB2.out hbw).c7
      go_wp2
      clear d0 d1 d2 d3 d4 d5 d6 d7
      have HW : Hid (wdAc Xl[j] = 7 + 2 * x.es.length) := by unfold Hid; rw [← HXX.out]; rfl
      have HQ : Hid ((K + 1 + 1 + 1 + 1 + 1 + 1 + 2 * (x.es.length : Int) + 1 : Int) = k + (posAc Xl (j + 1) : Int)) := by
        have h1 := HP.out
        have h2 := HW.out
        have h3 := HK.out
        unfold Hid
        omega
      go_roundw
      case rel => exact ⟨j + 1, by go_num, congrArg (Value.int .i64) HQ.out, by omega, HB2.out⟩
      case measure => simp [intOf]; omega
    · have e : j = Xl.length := by omega
      subst e
      go_wp2
      go_ret
      exact ⟨rfl, HB0.out⟩
end Go.Proofs.YtpdlcccnlciecaaGreat
