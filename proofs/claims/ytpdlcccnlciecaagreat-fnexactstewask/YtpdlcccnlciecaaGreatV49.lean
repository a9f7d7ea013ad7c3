import Derived.Test.YtpdlcccnlciecaaGreatV48
namespace Go.Proofs.YtpdlcccnlciecaaGreat
open Go.RowKit Go.Deep

section
variable (lo m : Nat) (sv cv bv : Value) (B : Sb) (x : Sv) (n : Ct) (d : Int) (lk : List Value) (w : World)
set_option maxRecDepth 100000 in
set_option maxHeartbeats 8000000 in
theorem followLoad_c (hlk : LkIs lk m sv cv bv B x n d) (h : SbAt lo w sv cv bv B) (hx : IxAt w m B) (hv : validB B = true) (hsx : svF B.ss x.nm = some x) (hn : n.li = (((liveL B x.nm).length : Nat) : Int)) (hol : n.ol = (((oldL B x).length : Nat) : Int)) (hd : d = (((drL B x).length : Nat) : Int)) (hen : n.en = (ctL B.cs x.nm x.im).en) (hw : (0 ≤ x.wa ∧ x.wa ≤ 10) ∧ (0 ≤ x.dn ∧ x.dn ≤ 10)) (_ho : 0 ≤ x.ov ∧ x.ov ≤ 10) (hper : x.pr ≠ 0 → 1 ≤ x.pr ∧ x.pr ≤ 1000000 ∧ 0 ≤ x.ld ∧ x.ld ≤ 1000000 ∧ x.ls ≤ x.ms ∧ 0 ≤ x.cl ∧ x.cl ≤ 3) :
    Calls Tryz.prog 78 #[.agg lk.toArray] w fun e w' => CareIs w (loadI x) e w' := by
  have HLK := hide hlk
  have HK := hide h
  have HX := hide hx
  have HV := hide hv
  have HSX := hide hsx
  have HW := hide hw
  have HN := hide hn
  have HOL := hide hol
  have HD := hide hd
  have HEN := hide hen
  clear hlk h hv hx hsx hn hol hd hen
  go_enter Tryz.func78, Tryz.ntmps78
  have FX0 : Hid (Box ((w.alloc (.cells lk.toArray 105)).alloc (.cells zAct.toArray 47)) w.heap.size lk.toArray) := (Box.new _ _ _ _ rfl).on (one_al _ _)
  have HSS : Hid (((w.alloc (.cells lk.toArray 105)).alloc (.cells zAct.toArray 47)).rangeAt w.heap.size 5 [.string x.nm, .int .i64 x.ve, .bool x.gn, .int .i64 x.im, .int .i64 x.wa, .int .i64 x.dn, .int .i64 x.ov, .int .i64 x.nx, .int .i64 x.pr, .int .i64 x.ls, .int .i64 x.ms, .int .i64 x.ld, .int .i64 x.cl]) := fun j v hv => by
    have := FX0.out.rng (5 + j) v
    rw [Nat.zero_add] at this
    refine this ?_
    rw [HLK.out]
    match j, hv with
    | 0, hv => exact hv
    | 1, hv => exact hv
    | 2, hv => exact hv
    | 3, hv => exact hv
    | 4, hv => exact hv
    | 5, hv => exact hv
    | 6, hv => exact hv
    | 7, hv => exact hv
    | 8, hv => exact hv
    | 9, hv => exact hv
    | 10, hv => exact hv
    | 11, hv => exact hv
    | 12, hv => exact hv
  have HL0 : Hid (x.gn = true ∨ x.pr = 0 → loadI x = none) := fun h => if_pos h
  have HL1 : Hid (¬ (x.gn = true ∨ x.pr = 0) → loadI x = if btw x.wa x.ls x.ms ≠ x.wa then some (scaleA x (btw x.wa x.ls x.ms) 0) else
      if x.wa < btw ((x.ld + x.pr - 1) / x.pr) x.ls x.ms then some (scaleA x (btw ((x.ld + x.pr - 1) / x.pr) x.ls x.ms) 0)
      else if btw ((x.ld + x.pr - 1) / x.pr) x.ls x.ms < x.wa ∧ x.cl = 3 then some (scaleA x (x.wa - 1) 0)
      else if btw ((x.ld + x.pr - 1) / x.pr) x.ls x.ms < x.wa then some (scaleA x x.wa (x.cl + 1))
      else if x.cl ≠ 0 then some (scaleA x x.wa 0)
      else none) := fun h => if_neg h
  cases hg : x.gn with
  | true =>
    have HE : Hid (loadI x = none) := HL0.out (Or.inl hg)
    rw [hg] at HSS
    go_wp2_with (refine wpList_load_mid rfl 50 (.tmp 7) rfl w.heap.size 5 rfl [.string x.nm, .int .i64 x.ve, .bool true, .int .i64 x.im, .int .i64 x.wa, .int .i64 x.dn, .int .i64 x.ov, .int .i64 x.nx, .int .i64 x.pr, .int .i64 x.ls, .int .i64 x.ms, .int .i64 x.ld, .int .i64 x.cl] _ HSS.out Tryz.underlying50 rfl (by kernel_rfl) ?_)
    generalize hWa : World.alloc (World.alloc (w.alloc _) _) _ = Wa
    have FX : Hid (Box Wa w.heap.size lk.toArray) := by unfold Hid; rw [← hWa]; exact ((Box.new _ _ _ _ rfl).on (one_al _ _)).on (one_al _ _)
    have FR : Hid (Box Wa (w.heap.size + 1) zAct.toArray) := by unfold Hid; rw [← hWa]; exact (Box.new _ _ _ _ (by simp)).on (one_al _ _)
    have FS : Hid (Box Wa (w.heap.size + 1 + 1) #[.string x.nm, .int .i64 x.ve, .bool true, .int .i64 x.im, .int .i64 x.wa, .int .i64 x.dn, .int .i64 x.ov, .int .i64 x.nx, .int .i64 x.pr, .int .i64 x.ls, .int .i64 x.ms, .int .i64 x.ld, .int .i64 x.cl]) := by unfold Hid; rw [← hWa]; exact Box.new _ _ _ _ (by simp)
    have HB : Hid (Below w.heap.size w Wa) := by unfold Hid; rw [← hWa]; exact ((one_al w _).alloc (by simp) _).alloc (by simp; omega) _
    clear hWa
    refine (rest_c _).mono ?_
    rintro e wz ⟨A, a, k, hA, rfl, hrow, hb⟩
    have HA := hide hA
    have HROW := hide hrow
    have FRz := hide (FR.out.on hb)
    have HBz := hide (bt HB.out hb)
    have hBR := FR.out.lt
    obtain ⟨ll, hll⟩ : ∃ ll, ll = acL A (.slice a A.es.length k) := ⟨_, rfl⟩
    rw [← hll]
    have h8 : ll.toArray.size = 8 := by rw [hll]; rfl
    have HS8 : Hid ((Tryz.prog.info? 47).map (·.size) = some ll.length) := by unfold Hid; rw [hll]; exact Tryz.sizeAct
    have HSA : Hid ((Tryz.prog.info? 47).map (·.size) = some ll.toArray.size) := by unfold Hid; rw [hll]; exact Tryz.sizeAct
    have HTH : Hid (wz.there (w.heap.size + 1) 0 ll.toArray.size) := by unfold Hid; rw [h8]; exact FRz.out.there rfl
    have HON : Hid (ll.toArray.all (·.oneCell') = true) := by unfold Hid; rw [hll]; exact acL_one _
    have HLL := hide hll
    clear hll hA hrow hb
    go_wp2_with (refine wpList_store_mid rfl 47 (.tmp 2) (.tmp 17) rfl (w.heap.size + 1) 0 ll.toArray rfl rfl HTH.out HSA.out HON.out ?_; refine Hid.out ?_)
    generalize hW : World.setCells _ _ _ _ = W9
    have FR9 : Hid (Box W9 (w.heap.size + 1) ll.toArray) := by unfold Hid; rw [← hW]; exact FRz.out.full (cs' := ll.toArray) (by rw [h8]; rfl)
    have HB9 : Hid (Below w.heap.size w W9) := by unfold Hid; rw [← hW]; exact Below.sets (by omega) _ _ HBz.out
    have HER : Hid (ERow W9 w.heap.size (.slice a A.es.length k) A.es) := by unfold Hid; rw [← hW]; exact erow_sets HROW.out (by omega) (by omega)
    clear hW
    refine hide ?_
    go_wp2
    refine bodyPost_ret (v := .tuple #[.agg ll.toArray, .bool false]) (res_care (p := 2) (q := 3) (ty := 47) Tryz.results78 _ _ (w.heap.size + 1) ll false _ rfl rfl (FR9.out.range rfl) Tryz.underlying47 rfl HS8.out) rfl ?_
    rw [HE.out]
    exact ⟨A, a, k, HA.out, (by rw [HLL.out]; try rfl), HER.out, HB9.out⟩
  | false =>
  rw [hg] at HSS
  by_cases hp : x.pr = 0
  · have HE : Hid (loadI x = none) := HL0.out (Or.inr hp)
    have b0 : (x.pr == 0) = true := by rw [beq_iff_eq]; exact hp
    clear hp
    go_wp2_with (refine wpList_load_mid rfl 50 (.tmp 7) rfl w.heap.size 5 rfl [.string x.nm, .int .i64 x.ve, .bool false, .int .i64 x.im, .int .i64 x.wa, .int .i64 x.dn, .int .i64 x.ov, .int .i64 x.nx, .int .i64 x.pr, .int .i64 x.ls, .int .i64 x.ms, .int .i64 x.ld, .int .i64 x.cl] _ HSS.out Tryz.underlying50 rfl (by kernel_rfl) ?_)
    generalize hWa : World.alloc (World.alloc (w.alloc _) _) _ = Wa
    have FX : Hid (Box Wa w.heap.size lk.toArray) := by unfold Hid; rw [← hWa]; exact ((Box.new _ _ _ _ rfl).on (one_al _ _)).on (one_al _ _)
    have FR : Hid (Box Wa (w.heap.size + 1) zAct.toArray) := by unfold Hid; rw [← hWa]; exact (Box.new _ _ _ _ (by simp)).on (one_al _ _)
    have FS : Hid (Box Wa (w.heap.size + 1 + 1) #[.string x.nm, .int .i64 x.ve, .bool false, .int .i64 x.im, .int .i64 x.wa, .int .i64 x.dn, .int .i64 x.ov, .int .i64 x.nx, .int .i64 x.pr, .int .i64 x.ls, .int .i64 x.ms, .int .i64 x.ld, .int .i64 x.cl]) := by unfold Hid; rw [← hWa]; exact Box.new _ _ _ _ (by simp)
    have HB : Hid (Below w.heap.size w Wa) := by unfold Hid; rw [← hWa]; exact ((one_al w _).alloc (by simp) _).alloc (by simp; omega) _
    clear hWa
    refine (rest_c _).mono ?_
    rintro e wz ⟨A, a, k, hA, rfl, hrow, hb⟩
    have HA := hide hA
    have HROW := hide hrow
    have FRz := hide (FR.out.on hb)
    have HBz := hide (bt HB.out hb)
    have hBR := FR.out.lt
    obtain ⟨ll, hll⟩ : ∃ ll, ll = acL A (.slice a A.es.length k) := ⟨_, rfl⟩
    rw [← hll]
    have h8 : ll.toArray.size = 8 := by rw [hll]; rfl
    have HS8 : Hid ((Tryz.prog.info? 47).map (·.size) = some ll.length) := by unfold Hid; rw [hll]; exact Tryz.sizeAct
    have HSA : Hid ((Tryz.prog.info? 47).map (·.size) = some ll.toArray.size) := by unfold Hid; rw [hll]; exact Tryz.sizeAct
    have HTH : Hid (wz.there (w.heap.size + 1) 0 ll.toArray.size) := by unfold Hid; rw [h8]; exact FRz.out.there rfl
    have HON : Hid (ll.toArray.all (·.oneCell') = true) := by unfold Hid; rw [hll]; exact acL_one _
    have HLL := hide hll
    clear hll hA hrow hb
    go_wp2_with (refine wpList_store_mid rfl 47 (.tmp 2) (.tmp 17) rfl (w.heap.size + 1) 0 ll.toArray rfl rfl HTH.out HSA.out HON.out ?_; refine Hid.out ?_)
    generalize hW : World.setCells _ _ _ _ = W9
    have FR9 : Hid (Box W9 (w.heap.size + 1) ll.toArray) := by unfold Hid; rw [← hW]; exact FRz.out.full (cs' := ll.toArray) (by rw [h8]; rfl)
    have HB9 : Hid (Below w.heap.size w W9) := by unfold Hid; rw [← hW]; exact Below.sets (by omega) _ _ HBz.out
    have HER : Hid (ERow W9 w.heap.size (.slice a A.es.length k) A.es) := by unfold Hid; rw [← hW]; exact erow_sets HROW.out (by omega) (by omega)
    clear hW
    refine hide ?_
    go_wp2
    refine bodyPost_ret (v := .tuple #[.agg ll.toArray, .bool false]) (res_care (p := 2) (q := 3) (ty := 47) Tryz.results78 _ _ (w.heap.size + 1) ll false _ rfl rfl (FR9.out.range rfl) Tryz.underlying47 rfl HS8.out) rfl ?_
    rw [HE.out]
    exact ⟨A, a, k, HA.out, (by rw [HLL.out]; try rfl), HER.out, HB9.out⟩
  have HL2 := hide (HL1.out (fun h => h.elim (fun h => by rw [hg] at h; cases h) hp))
  obtain ⟨p1, p2, p3, p4, p5, p6, p7⟩ := hper hp
  have b0 : (x.pr == 0) = false := by rw [beq_eq_false_iff_ne]; exact hp
  have HDW := fun w => hide (dueWant_any x w p1 p2 p3 p4 p5)
  rw [hg] at HDW
  rw [← des_btw p5] at HL2
  generalize hD : desF x = D at HDW HL2
  clear hD
  have HP := hide (And.intro p6 p7)
  clear hp hper HL0 HL1 p1 p2 p3 p4 p5 p6 p7
  go_wp2_with (refine wpList_load_mid rfl 50 (.tmp 7) rfl w.heap.size 5 rfl [.string x.nm, .int .i64 x.ve, .bool false, .int .i64 x.im, .int .i64 x.wa, .int .i64 x.dn, .int .i64 x.ov, .int .i64 x.nx, .int .i64 x.pr, .int .i64 x.ls, .int .i64 x.ms, .int .i64 x.ld, .int .i64 x.cl] _ HSS.out Tryz.underlying50 rfl (by kernel_rfl) ?_)
  generalize hWa : World.alloc (World.alloc (w.alloc _) _) _ = Wa
  have FX : Hid (Box Wa w.heap.size lk.toArray) := by unfold Hid; rw [← hWa]; exact ((Box.new _ _ _ _ rfl).on (one_al _ _)).on (one_al _ _)
  have FR : Hid (Box Wa (w.heap.size + 1) zAct.toArray) := by unfold Hid; rw [← hWa]; exact (Box.new _ _ _ _ (by simp)).on (one_al _ _)
  have FS : Hid (Box Wa (w.heap.size + 1 + 1) #[.string x.nm, .int .i64 x.ve, .bool false, .int .i64 x.im, .int .i64 x.wa, .int .i64 x.dn, .int .i64 x.ov, .int .i64 x.nx, .int .i64 x.pr, .int .i64 x.ls, .int .i64 x.ms, .int .i64 x.ld, .int .i64 x.cl]) := by unfold Hid; rw [← hWa]; exact Box.new _ _ _ _ (by simp)
  have HB : Hid (Below w.heap.size w Wa) := by unfold Hid; rw [← hWa]; exact ((one_al w _).alloc (by simp) _).alloc (by simp; omega) _
  clear hWa
  generalize hnr : btw x.wa x.ls x.ms = nr at HL2
  refine (between_any _ _ _ _).mono ?_
  rintro e w1 ⟨rfl, hb1⟩
  rw [hnr]
  clear hnr
  have FX1 := hide (FX.out.on hb1)
  have FR1 := hide (FR.out.on hb1)
  have FS1 := hide (FS.out.on hb1)
  have HB1 := hide (bt HB.out hb1)
  clear hb1 FX FR FS HB
  have c4 : w1.cell? ⟨w.heap.size + 1 + 1, 4, none⟩ = some (.int .i64 x.wa) := by rw [FS1.out.cell 4]; rfl
  by_cases hne : nr = x.wa
  case neg =>
    have HE : Hid (loadI x = some (scaleA x nr 0)) := by unfold Hid; rw [HL2.out, if_pos hne]
    have b1 : (nr == x.wa) = false := by rw [beq_eq_false_iff_ne]; exact hne
    clear hne HDW
    go_wp2_with (refine wpList_load_mid rfl 105 (.tmp 1) rfl w.heap.size 0 rfl lk _ FX1.out.rng Tryz.underlying105 rfl HLK.out.size ?_)
    clear c4
    refine (scale_c m sv cv bv B x n d lk _ (nr) (0) HLK.out).mono ?_
    rintro e wz ⟨A, a, k, hA, rfl, hrow, hb⟩
    have HA := hide hA
    have HROW := hide hrow
    have FRz := hide (FR1.out.on hb)
    have HBz := hide (bt HB1.out hb)
    have hBR := FR1.out.lt
    obtain ⟨ll, hll⟩ : ∃ ll, ll = acL A (.slice a A.es.length k) := ⟨_, rfl⟩
    rw [← hll]
    have h8 : ll.toArray.size = 8 := by rw [hll]; rfl
    have HS8 : Hid ((Tryz.prog.info? 47).map (·.size) = some ll.length) := by unfold Hid; rw [hll]; exact Tryz.sizeAct
    have HSA : Hid ((Tryz.prog.info? 47).map (·.size) = some ll.toArray.size) := by unfold Hid; rw [hll]; exact Tryz.sizeAct
    have HTH : Hid (wz.there (w.heap.size + 1) 0 ll.toArray.size) := by unfold Hid; rw [h8]; exact FRz.out.there rfl
    have HON : Hid (ll.toArray.all (·.oneCell') = true) := by unfold Hid; rw [hll]; exact acL_one _
    have HLL := hide hll
    clear hll hA hrow hb
    go_wp2_with (refine wpList_store_mid rfl 47 (.tmp 2) (.tmp 33) rfl (w.heap.size + 1) 0 ll.toArray rfl rfl HTH.out HSA.out HON.out ?_; refine Hid.out ?_)
    generalize hW : World.setCells _ _ _ _ = W9
    have FR9 : Hid (Box W9 (w.heap.size + 1) ll.toArray) := by unfold Hid; rw [← hW]; exact FRz.out.full (cs' := ll.toArray) (by rw [h8]; rfl)
    have HB9 : Hid (Below w.heap.size w W9) := by unfold Hid; rw [← hW]; exact Below.sets (by omega) _ _ HBz.out
    have HER : Hid (ERow W9 w.heap.size (.slice a A.es.length k) A.es) := by unfold Hid; rw [← hW]; exact erow_sets HROW.out (by omega) (by omega)
    clear hW
    refine hide ?_
    go_wp2
    refine bodyPost_ret (v := .tuple #[.agg ll.toArray, .bool true]) (res_care (p := 2) (q := 3) (ty := 47) Tryz.results78 _ _ (w.heap.size + 1) ll true _ rfl rfl (FR9.out.range rfl) Tryz.underlying47 rfl HS8.out) rfl ?_
    rw [HE.out]
    exact ⟨A, a, k, HA.out, (by rw [HLL.out]; try rfl), HER.out, HB9.out⟩
  have b1 : (nr == x.wa) = true := by rw [beq_iff_eq]; exact hne
  have HL3 := hide (HL2.out.trans (if_neg (not_not_intro hne)))
  have HR1 : Hid (w1.rangeAt (w.heap.size + 1 + 1) 0 [.string x.nm, .int .i64 x.ve, .bool false, .int .i64 x.im, .int .i64 x.wa, .int .i64 x.dn, .int .i64 x.ov, .int .i64 x.nx, .int .i64 x.pr, .int .i64 x.ls, .int .i64 x.ms, .int .i64 x.ld, .int .i64 x.cl]) := FS1.out.range rfl
  clear hne
  go_wp2_with (refine wpList_load_mid rfl 50 (.tmp 4) rfl (w.heap.size + 1 + 1) 0 rfl [.string x.nm, .int .i64 x.ve, .bool false, .int .i64 x.im, .int .i64 x.wa, .int .i64 x.dn, .int .i64 x.ov, .int .i64 x.nx, .int .i64 x.pr, .int .i64 x.ls, .int .i64 x.ms, .int .i64 x.ld, .int .i64 x.cl] _ HR1.out Tryz.underlying50 rfl (by kernel_rfl) ?_)
  refine (HDW _).out.mono ?_
  rintro e w2 ⟨rfl, hb2⟩
  have FX2 := hide (FX1.out.on hb2)
  have FR2 := hide (FR1.out.on hb2)
  have FS2 := hide (FS1.out.on hb2)
  have HB2 := hide (bt HB1.out hb2)
  clear hb2 FX1 FR1 FS1 HB1 HDW HL2 HR1 c4
  have c4 : w2.cell? ⟨w.heap.size + 1 + 1, 4, none⟩ = some (.int .i64 x.wa) := by rw [FS2.out.cell 4]; rfl
  have c12 : w2.cell? ⟨w.heap.size + 1 + 1, 12, none⟩ = some (.int .i64 x.cl) := by rw [FS2.out.cell 12]; rfl
  have q1 : IntKind.i64.wrap (x.wa - 1) = x.wa - 1 := by rw [IntWalk.i64_left]; unfold wrap64; omega
  have q2 : IntKind.i64.wrap (x.cl + 1) = x.cl + 1 := by have := HP.out; rw [IntWalk.i64_left]; unfold wrap64; omega
  by_cases h1 : x.wa < D
  · have HE : Hid (loadI x = some (scaleA x D 0)) := by unfold Hid; rw [HL3.out, if_pos h1]
    have d1 : decide (x.wa < D) = true := decide_eq_true h1
    go_wp2_with (refine wpList_load_mid rfl 105 (.tmp 1) rfl w.heap.size 0 rfl lk _ FX2.out.rng Tryz.underlying105 rfl HLK.out.size ?_)
    clear c4 c12
    refine (scale_c m sv cv bv B x n d lk _ (D) (0) HLK.out).mono ?_
    rintro e wz ⟨A, a, k, hA, rfl, hrow, hb⟩
    have HA := hide hA
    have HROW := hide hrow
    have FRz := hide (FR2.out.on hb)
    have HBz := hide (bt HB2.out hb)
    have hBR := FR2.out.lt
    obtain ⟨ll, hll⟩ : ∃ ll, ll = acL A (.slice a A.es.length k) := ⟨_, rfl⟩
    rw [← hll]
    have h8 : ll.toArray.size = 8 := by rw [hll]; rfl
    have HS8 : Hid ((Tryz.prog.info? 47).map (·.size) = some ll.length) := by unfold Hid; rw [hll]; exact Tryz.sizeAct
    have HSA : Hid ((Tryz.prog.info? 47).map (·.size) = some ll.toArray.size) := by unfold Hid; rw [hll]; exact Tryz.sizeAct
    have HTH : Hid (wz.there (w.heap.size + 1) 0 ll.toArray.size) := by unfold Hid; rw [h8]; exact FRz.out.there rfl
    have HON : Hid (ll.toArray.all (·.oneCell') = true) := by unfold Hid; rw [hll]; exact acL_one _
    have HLL := hide hll
    clear hll hA hrow hb
    go_wp2_with (refine wpList_store_mid rfl 47 (.tmp 2) (.tmp 45) rfl (w.heap.size + 1) 0 ll.toArray rfl rfl HTH.out HSA.out HON.out ?_; refine Hid.out ?_)
    generalize hW : World.setCells _ _ _ _ = W9
    have FR9 : Hid (Box W9 (w.heap.size + 1) ll.toArray) := by unfold Hid; rw [← hW]; exact FRz.out.full (cs' := ll.toArray) (by rw [h8]; rfl)
    have HB9 : Hid (Below w.heap.size w W9) := by unfold Hid; rw [← hW]; exact Below.sets (by omega) _ _ HBz.out
    have HER : Hid (ERow W9 w.heap.size (.slice a A.es.length k) A.es) := by unfold Hid; rw [← hW]; exact erow_sets HROW.out (by omega) (by omega)
    clear hW
    refine hide ?_
    go_wp2
    refine bodyPost_ret (v := .tuple #[.agg ll.toArray, .bool true]) (res_care (p := 2) (q := 3) (ty := 47) Tryz.results78 _ _ (w.heap.size + 1) ll true _ rfl rfl (FR9.out.range rfl) Tryz.underlying47 rfl HS8.out) rfl ?_
    rw [HE.out]
    exact ⟨A, a, k, HA.out, (by rw [HLL.out]; try rfl), HER.out, HB9.out⟩
  have d1 : decide (x.wa < D) = false := decide_eq_false h1
  by_cases h2 : D < x.wa
  · have d2 : decide (D < x.wa) = true := decide_eq_true h2
    by_cases h3 : x.cl = 3
    · have HE : Hid (loadI x = some (scaleA x (x.wa - 1) 0)) := by unfold Hid; rw [HL3.out, if_neg h1, if_pos ⟨h2, h3⟩]
      have d3 : (x.cl == 3) = true := by rw [beq_iff_eq]; exact h3
      clear h3
      go_wp2_with (refine wpList_load_mid rfl 105 (.tmp 1) rfl w.heap.size 0 rfl lk _ FX2.out.rng Tryz.underlying105 rfl HLK.out.size ?_)
      clear c4 c12
      refine (scale_c m sv cv bv B x n d lk _ (x.wa - 1) (0) HLK.out).mono ?_
      rintro e wz ⟨A, a, k, hA, rfl, hrow, hb⟩
      have HA := hide hA
      have HROW := hide hrow
      have FRz := hide (FR2.out.on hb)
      have HBz := hide (bt HB2.out hb)
      have hBR := FR2.out.lt
      obtain ⟨ll, hll⟩ : ∃ ll, ll = acL A (.slice a A.es.length k) := ⟨_, rfl⟩
      rw [← hll]
      have h8 : ll.toArray.size = 8 := by rw [hll]; rfl
      have HS8 : Hid ((Tryz.prog.info? 47).map (·.size) = some ll.length) := by unfold Hid; rw [hll]; exact Tryz.sizeAct
      have HSA : Hid ((Tryz.prog.info? 47).map (·.size) = some ll.toArray.size) := by unfold Hid; rw [hll]; exact Tryz.sizeAct
      have HTH : Hid (wz.there (w.heap.size + 1) 0 ll.toArray.size) := by unfold Hid; rw [h8]; exact FRz.out.there rfl
      have HON : Hid (ll.toArray.all (·.oneCell') = true) := by unfold Hid; rw [hll]; exact acL_one _
      have HLL := hide hll
      clear hll hA hrow hb
      go_wp2_with (refine wpList_store_mid rfl 47 (.tmp 2) (.tmp 62) rfl (w.heap.size + 1) 0 ll.toArray rfl rfl HTH.out HSA.out HON.out ?_; refine Hid.out ?_)
      generalize hW : World.setCells _ _ _ _ = W9
      have FR9 : Hid (Box W9 (w.heap.size + 1) ll.toArray) := by unfold Hid; rw [← hW]; exact FRz.out.full (cs' := ll.toArray) (by rw [h8]; rfl)
      have HB9 : Hid (Below w.heap.size w W9) := by unfold Hid; rw [← hW]; exact Below.sets (by omega) _ _ HBz.out
      have HER : Hid (ERow W9 w.heap.size (.slice a A.es.length k) A.es) := by unfold Hid; rw [← hW]; exact erow_sets HROW.out (by omega) (by omega)
      clear hW
      refine hide ?_
      go_wp2
      refine bodyPost_ret (v := .tuple #[.agg ll.toArray, .bool true]) (res_care (p := 2) (q := 3) (ty := 47) Tryz.results78 _ _ (w.heap.size + 1) ll true _ rfl rfl (FR9.out.range rfl) Tryz.underlying47 rfl HS8.out) rfl ?_
      rw [HE.out]
      exact ⟨A, a, k, HA.out, (by rw [HLL.out]; try rfl), HER.out, HB9.out⟩
    have HE : Hid (loadI x = some (scaleA x x.wa (x.cl + 1))) := by unfold Hid; rw [HL3.out, if_neg h1, if_neg (fun h => h3 h.2), if_pos h2]
    have d3 : (x.cl == 3) = false := by rw [beq_eq_false_iff_ne]; exact h3
    clear h3
    go_wp2_with (refine wpList_load_mid rfl 105 (.tmp 1) rfl w.heap.size 0 rfl lk _ FX2.out.rng Tryz.underlying105 rfl HLK.out.size ?_)
    clear c4 c12
    refine (scale_c m sv cv bv B x n d lk _ (x.wa) (x.cl + 1) HLK.out).mono ?_
    rintro e wz ⟨A, a, k, hA, rfl, hrow, hb⟩
    have HA := hide hA
    have HROW := hide hrow
    have FRz := hide (FR2.out.on hb)
    have HBz := hide (bt HB2.out hb)
    have hBR := FR2.out.lt
    obtain ⟨ll, hll⟩ : ∃ ll, ll = acL A (.slice a A.es.length k) := ⟨_, rfl⟩
    rw [← hll]
    have h8 : ll.toArray.size = 8 := by rw [hll]; rfl
    have HS8 : Hid ((Tryz.prog.info? 47).map (·.size) = some ll.length) := by unfold Hid; rw [hll]; exact Tryz.sizeAct
    have HSA : Hid ((Tryz.prog.info? 47).map (·.size) = some ll.toArray.size) := by unfold Hid; rw [hll]; exact Tryz.sizeAct
    have HTH : Hid (wz.there (w.heap.size + 1) 0 ll.toArray.size) := by unfold Hid; rw [h8]; exact FRz.out.there rfl
    have HON : Hid (ll.toArray.all (·.oneCell') = true) := by unfold Hid; rw [hll]; exact acL_one _
    have HLL := hide hll
    clear hll hA hrow hb
    go_wp2_with (refine wpList_store_mid rfl 47 (.tmp 2) (.tmp 76) rfl (w.heap.size + 1) 0 ll.toArray rfl rfl HTH.out HSA.out HON.out ?_; refine Hid.out ?_)
    generalize hW : World.setCells _ _ _ _ = W9
    have FR9 : Hid (Box W9 (w.heap.size + 1) ll.toArray) := by unfold Hid; rw [← hW]; exact FRz.out.full (cs' := ll.toArray) (by rw [h8]; rfl)
    have HB9 : Hid (Below w.heap.size w W9) := by unfold Hid; rw [← hW]; exact Below.sets (by omega) _ _ HBz.out
    have HER : Hid (ERow W9 w.heap.size (.slice a A.es.length k) A.es) := by unfold Hid; rw [← hW]; exact erow_sets HROW.out (by omega) (by omega)
    clear hW
    refine hide ?_
    go_wp2
    refine bodyPost_ret (v := .tuple #[.agg ll.toArray, .bool true]) (res_care (p := 2) (q := 3) (ty := 47) Tryz.results78 _ _ (w.heap.size + 1) ll true _ rfl rfl (FR9.out.range rfl) Tryz.underlying47 rfl HS8.out) rfl ?_
    rw [HE.out]
    exact ⟨A, a, k, HA.out, (by rw [HLL.out]; try rfl), HER.out, HB9.out⟩
  have d2 : decide (D < x.wa) = false := decide_eq_false h2
  by_cases h3 : x.cl = 0
  · have HE : Hid (loadI x = none) := by unfold Hid; rw [HL3.out, if_neg h1, if_neg (fun h => h2 h.1), if_neg h2, if_neg (not_not_intro h3)]
    have d3 : (x.cl == 0) = true := by rw [beq_iff_eq]; exact h3
    clear h3
    go_wp2_with fail
    clear c4 c12
    refine (rest_c _).mono ?_
    rintro e wz ⟨A, a, k, hA, rfl, hrow, hb⟩
    have HA := hide hA
    have HROW := hide hrow
    have FRz := hide (FR2.out.on hb)
    have HBz := hide (bt HB2.out hb)
    have hBR := FR2.out.lt
    obtain ⟨ll, hll⟩ : ∃ ll, ll = acL A (.slice a A.es.length k) := ⟨_, rfl⟩
    rw [← hll]
    have h8 : ll.toArray.size = 8 := by rw [hll]; rfl
    have HS8 : Hid ((Tryz.prog.info? 47).map (·.size) = some ll.length) := by unfold Hid; rw [hll]; exact Tryz.sizeAct
    have HSA : Hid ((Tryz.prog.info? 47).map (·.size) = some ll.toArray.size) := by unfold Hid; rw [hll]; exact Tryz.sizeAct
    have HTH : Hid (wz.there (w.heap.size + 1) 0 ll.toArray.size) := by unfold Hid; rw [h8]; exact FRz.out.there rfl
    have HON : Hid (ll.toArray.all (·.oneCell') = true) := by unfold Hid; rw [hll]; exact acL_one _
    have HLL := hide hll
    clear hll hA hrow hb
    go_wp2_with (refine wpList_store_mid rfl 47 (.tmp 2) (.tmp 89) rfl (w.heap.size + 1) 0 ll.toArray rfl rfl HTH.out HSA.out HON.out ?_; refine Hid.out ?_)
    generalize hW : World.setCells _ _ _ _ = W9
    have FR9 : Hid (Box W9 (w.heap.size + 1) ll.toArray) := by unfold Hid; rw [← hW]; exact FRz.out.full (cs' := ll.toArray) (by rw [h8]; rfl)
    have HB9 : Hid (Below w.heap.size w W9) := by unfold Hid; rw [← hW]; exact Below.sets (by omega) _ _ HBz.out
    have HER : Hid (ERow W9 w.heap.size (.slice a A.es.length k) A.es) := by unfold Hid; rw [← hW]; exact erow_sets HROW.out (by omega) (by omega)
    clear hW
    refine hide ?_
    go_wp2
    refine bodyPost_ret (v := .tuple #[.agg ll.toArray, .bool false]) (res_care (p := 2) (q := 3) (ty := 47) Tryz.results78 _ _ (w.heap.size + 1) ll false _ rfl rfl (FR9.out.range rfl) Tryz.underlying47 rfl HS8.out) rfl ?_
    rw [HE.out]
    exact ⟨A, a, k, HA.out, (by rw [HLL.out]; try rfl), HER.out, HB9.out⟩
  have HE : Hid (loadI x = some (scaleA x x.wa 0)) := by unfold Hid; rw [HL3.out, if_neg h1, if_neg (fun h => h2 h.1), if_neg h2, if_pos h3]
  have d3 : (x.cl == 0) = false := by rw [beq_eq_false_iff_ne]; exact h3
  clear h3
  go_wp2_with (refine wpList_load_mid rfl 105 (.tmp 1) rfl w.heap.size 0 rfl lk _ FX2.out.rng Tryz.underlying105 rfl HLK.out.size ?_)
  clear c4 c12
  refine (scale_c m sv cv bv B x n d lk _ (x.wa) (0) HLK.out).mono ?_
  rintro e wz ⟨A, a, k, hA, rfl, hrow, hb⟩
  have HA := hide hA
  have HROW := hide hrow
  have FRz := hide (FR2.out.on hb)
  have HBz := hide (bt HB2.out hb)
  have hBR := FR2.out.lt
  obtain ⟨ll, hll⟩ : ∃ ll, ll = acL A (.slice a A.es.length k) := ⟨_, rfl⟩
  rw [← hll]
  have h8 : ll.toArray.size = 8 := by rw [hll]; rfl
  have HS8 : Hid ((Tryz.prog.info? 47).map (·.size) = some ll.length) := by unfold Hid; rw [hll]; exact Tryz.sizeAct
  have HSA : Hid ((Tryz.prog.info? 47).map (·.size) = some ll.toArray.size) := by unfold Hid; rw [hll]; exact Tryz.sizeAct
  have HTH : Hid (wz.there (w.heap.size + 1) 0 ll.toArray.size) := by unfold Hid; rw [h8]; exact FRz.out.there rfl
  have HON : Hid (ll.toArray.all (·.oneCell') = true) := by unfold Hid; rw [hll]; exact acL_one _
  have HLL := hide hll
  clear hll hA hrow hb
  go_wp2_with (refine wpList_store_mid rfl 47 (.tmp 2) (.tmp 86) rfl (w.heap.size + 1) 0 ll.toArray rfl rfl HTH.out HSA.out HON.out ?_; refine Hid.out ?_)
  generalize hW : World.setCells _ _ _ _ = W9
  have FR9 : Hid (Box W9 (w.heap.size + 1) ll.toArray) := by unfold Hid; rw [← hW]; exact FRz.out.full (cs' := ll.toArray) (by rw [h8]; rfl)
  have HB9 : Hid (Below w.heap.size w W9) := by unfold Hid; rw [← hW]; exact Below.sets (by omega) _ _ HBz.out
  have HER : Hid (ERow W9 w.heap.size (.slice a A.es.length k) A.es) := by unfold Hid; rw [← hW]; exact erow_sets HROW.out (by omega) (by omega)
  clear hW
  refine hide ?_
  go_wp2
  refine bodyPost_ret (v := .tuple #[.agg ll.toArray, .bool true]) (res_care (p := 2) (q := 3) (ty := 47) Tryz.results78 _ _ (w.heap.size + 1) ll true _ rfl rfl (FR9.out.range rfl) Tryz.underlying47 rfl HS8.out) rfl ?_
  rw [HE.out]
  exact ⟨A, a, k, HA.out, (by rw [HLL.out]; try rfl), HER.out, HB9.out⟩

end
end Go.Proofs.YtpdlcccnlciecaaGreat
