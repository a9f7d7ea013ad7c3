import Derived.Test.YtpdlcccnlciecaaGreatV12
namespace Go.Proofs.YtpdlcccnlciecaaGreat
open Go.RowKit Go.Deep

def svL (x : Sv) : List Value := [.string x.nm, .int .i64 x.ve, .bool x.gn, .int .i64 x.im, .int .i64 x.wa, .int .i64 x.dn, .int .i64 x.ov, .int .i64 x.nx, .int .i64 x.pr, .int .i64 x.ls, .int .i64 x.ms, .int .i64 x.ld, .int .i64 x.cl]
theorem SvCells.rng {w : World} {b o : Nat} {x : Sv} (h : SvCells w b o x) : w.rangeAt b o (svL x) := fun j v hv => by
  obtain ⟨c0, c1, c2, c3, c4, c5, c6, c7, c8, c9, c10, c11, c12⟩ := h
  match j, hv with
  | 0, hv => rw [← hv]; exact c0
  | 1, hv => rw [← hv]; exact c1
  | 2, hv => rw [← hv]; exact c2
  | 3, hv => rw [← hv]; exact c3
  | 4, hv => rw [← hv]; exact c4
  | 5, hv => rw [← hv]; exact c5
  | 6, hv => rw [← hv]; exact c6
  | 7, hv => rw [← hv]; exact c7
  | 8, hv => rw [← hv]; exact c8
  | 9, hv => rw [← hv]; exact c9
  | 10, hv => rw [← hv]; exact c10
  | 11, hv => rw [← hv]; exact c11
  | 12, hv => rw [← hv]; exact c12
  | n + 13, hv => simp [svL] at hv
theorem Sv_sizeI : (Tryz.prog.info? 50).map (·.size) = some 13 := by kernel_rfl

section
variable (lo : Nat) (sv cv bv : Value) (B : Sb) (w : World)

set_option maxRecDepth 20000 in
set_option maxHeartbeats 16000000 in
theorem specValid_any (h : SbAt lo w sv cv bv B) :
    Calls Tryz.prog 16 #[.agg #[.int .i64 B.now, sv, cv, bv]] w fun e w' => e = .returned (.bool (validB B)) ∧ Below w.heap.size w w' := by
  have HI : Hid (validB B = (inB 0 1000000 B.now && (decide (B.ss.length ≤ 8) && (decide (B.cs.length ≤ 200) && (decide (B.bs.length ≤ 6) && ((B.ss.all (svB B.now) && risR rSv B.ss) && ((B.bs.all beB && risR rBe B.bs) && (B.cs.all (cpB B) && risR aheadB B.cs)))))))) := rfl
  have HK := hide h
  have HO : ∀ o, Hid (Below w.heap.size w (w.alloc o)) := fun o => one_al w o
  obtain ⟨a0, k0, rfl⟩ := h.svs.form
  obtain ⟨a1, k1, rfl⟩ := h.cps.form
  obtain ⟨a2, k2, rfl⟩ := h.bes.form
  clear h
  go_enter Tryz.func16, Tryz.ntmps16
  cases h0 : inB 0 1000000 B.now with
  | false =>
    have HE : Hid (validB B = false) := by unfold Hid; rw [HI.out, h0]; rfl
    go_wp2_with (go_at_call 37; refine (in_any _ _ _ _).mono ?_; rintro e w' ⟨rfl, rfl⟩)
    go_ret
    exact ⟨ret_bool HE.out.symm, (HO _).out⟩
  | true =>
  by_cases l0 : B.ss.length ≤ 8
  case neg =>
    have hgt : decide ((8 : Int) < (B.ss.length : Int)) = true := by simp; omega
    have HE : Hid (validB B = false) := by unfold Hid; rw [HI.out, h0, decide_eq_false l0]; rfl
    go_wp2_with (go_at_call 37; refine (in_any _ _ _ _).mono ?_; rintro e w' ⟨rfl, rfl⟩)
    go_ret
    exact ⟨ret_bool HE.out.symm, (HO _).out⟩
  have gl0 : decide ((8 : Int) < (B.ss.length : Int)) = false := by simp; omega
  by_cases l1 : B.cs.length ≤ 200
  case neg =>
    have hgt : decide ((200 : Int) < (B.cs.length : Int)) = true := by simp; omega
    have HE : Hid (validB B = false) := by unfold Hid; rw [HI.out, h0, decide_eq_true l0, decide_eq_false l1]; rfl
    go_wp2_with (go_at_call 37; refine (in_any _ _ _ _).mono ?_; rintro e w' ⟨rfl, rfl⟩)
    go_ret
    exact ⟨ret_bool HE.out.symm, (HO _).out⟩
  have gl1 : decide ((200 : Int) < (B.cs.length : Int)) = false := by simp; omega
  by_cases l2 : B.bs.length ≤ 6
  case neg =>
    have hgt : decide ((6 : Int) < (B.bs.length : Int)) = true := by simp; omega
    have HE : Hid (validB B = false) := by unfold Hid; rw [HI.out, h0, decide_eq_true l0, decide_eq_true l1, decide_eq_false l2]; rfl
    go_wp2_with (go_at_call 37; refine (in_any _ _ _ _).mono ?_; rintro e w' ⟨rfl, rfl⟩)
    go_ret
    exact ⟨ret_bool HE.out.symm, (HO _).out⟩
  have gl2 : decide ((6 : Int) < (B.bs.length : Int)) = false := by simp; omega
  have HE1 : Hid (validB B = ((B.ss.all (svB B.now) && risR rSv B.ss) && ((B.bs.all beB && risR rBe B.bs) && (B.cs.all (cpB B) && risR aheadB B.cs)))) := by unfold Hid; rw [HI.out, h0, decide_eq_true l0, decide_eq_true l1, decide_eq_true l2]; rfl
  go_wp2_with (go_at_call 37; refine (in_any _ _ _ _).mono ?_; rintro e w' ⟨rfl, rfl⟩)
  generalize hWa : w.alloc _ = Wa
  have HB0 : Hid (Below w.heap.size w Wa) := by rw [← hWa]; exact one_al w _
  have HX0 : Hid (Box Wa w.heap.size #[.int .i64 B.now, .slice a0 B.ss.length k0, .slice a1 B.cs.length k1, .slice a2 B.bs.length k2]) := by rw [← hWa]; exact Box.new _ _ _ _ rfl
  clear hWa h0 gl0 gl1 gl2
  go_loopw [3] (fun i wr => ∃ k : Nat, i = .int .i64 k ∧ k ≤ B.ss.length ∧ Below w.heap.size w wr ∧ Box wr w.heap.size #[.int .i64 B.now, .slice a0 B.ss.length k0, .slice a1 B.cs.length k1, .slice a2 B.bs.length k2] ∧ (∀ j (hj : j < B.ss.length), j < k → svB B.now B.ss[j] = true) ∧ (∀ j, j < k → risN rSv B.ss j = true)) (fun i _ => B.ss.length - (intOf i).toNat)
  case atStart => exact ⟨0, rfl, by omega, HB0.out, HX0.out, fun j _ h => by omega, fun j h => by omega⟩
  case round =>
    obtain ⟨k, rfl, hk, hb, hx, hall, hris⟩ := hrel
    have HAL := hide hall
    have HRI := hide hris
    have HBr := hide hb
    have HX := hide hx
    have y := hx.cell 1
    simp at y
    clear hall hb hx hris HB0 HX0
    by_cases hlt : k < B.ss.length
    · obtain ⟨b, off, rfl, hbw, -, hc⟩ := HK.out.svs.full' (by omega)
      have HCL := hide hc
      obtain ⟨hsz, hc⟩ := hc k hlt
      have HC := hide (hc.below HBr.out hbw)
      have HZS := hide hsz
      have hbr : b < wr.heap.size := Nat.lt_of_lt_of_le hbw HBr.out.size
      clear hc hsz
      go_wp2
      go_cut [63] (fun c wc => c = .bool (!(svB B.now B.ss[k] && risN rSv B.ss k)) ∧ Below wr.heap.size wr wc)
      case first =>
        have xn : Nonempty (In (Up wr)) := ⟨⟨wr, Below.refl _ _⟩⟩
        have xs := fun (X : In (Up wr)) => in_self X
        have x0 : ∀ X : In (Up wr), X.w.cell? ⟨w.heap.size, 0, none⟩ = some (.int .i64 B.now) := fun X => Up.cell X (by rw [HX.out.cell 0]; rfl)
        have x1 : ∀ X : In (Up wr), X.w.cell? ⟨w.heap.size, 1, none⟩ = some (.slice (some ⟨b, off, none⟩) B.ss.length k0) := fun X => Up.cell X (by rw [HX.out.cell 1]; rfl)
        have s0 : ∀ X : In (Up wr), _ := fun X => Up.cell X HC.out.c0
        have i0 : (0 : Int) ≤ (k : Int) := by omega
        have i1 : (k : Int) < (B.ss.length : Int) := by omega
        clear y
        refine wp_region_class (Up wr) (by kernel_rfl) (by kernel_rfl) ((Below.refl _ _).drew) ?_
        cases h5 : svB B.now B.ss[k] with
        | false =>
          repeat (go_big_quiet_step (first | (go_at_call 38; rename_i X; exact (serviceOk_any B.ss[k] B.now _ HZS.out).mono fun _ _ h => ⟨h.1, Up.next X h.2⟩)))
          refine wpQuiet_load_mid (by rfl) 50 (.tmp 38) rfl b (off + k * 13) rfl (svL B.ss[k]) _ (fun W hW => by obtain ⟨X, rfl⟩ := hW; exact rng_below HC.out.rng X.h hbr) Tryz.underlying50 rfl Sv_sizeI ?_
          simp only [Act.put, List.setIfInBounds_toArray, List.set_cons_zero, List.set_cons_succ]
          repeat (go_big_quiet_step (first | (go_at_call 38; rename_i X; exact (serviceOk_any B.ss[k] B.now _ HZS.out).mono fun _ _ h => ⟨h.1, Up.next X h.2⟩)))
          refine wpQuiet_nil ?_
          intro wn hw
          obtain ⟨X, hX⟩ := hw
          have HWN : Below wr.heap.size wr wn := by rw [hX]; exact X.h
          clear hX X x0 x1 s0 xs xn
          go_wp2
          go_meet
          exact ⟨congrArg Value.bool (by rw [h5]; rfl), HWN⟩
        | true =>
          by_cases h0 : k = 0
          · have hd0 : decide (0 < k) = false := by simp; omega
            have HR0 : Hid (risN rSv B.ss k = true) := by unfold Hid; rw [h0]; rfl
            clear h0
            repeat (go_big_quiet_step (first | (go_at_call 38; rename_i X; exact (serviceOk_any B.ss[k] B.now _ HZS.out).mono fun _ _ h => ⟨h.1, Up.next X h.2⟩)))
            refine wpQuiet_load_mid (by rfl) 50 (.tmp 38) rfl b (off + k * 13) rfl (svL B.ss[k]) _ (fun W hW => by obtain ⟨X, rfl⟩ := hW; exact rng_below HC.out.rng X.h hbr) Tryz.underlying50 rfl Sv_sizeI ?_
            simp only [Act.put, List.setIfInBounds_toArray, List.set_cons_zero, List.set_cons_succ]
            repeat (go_big_quiet_step (first | (go_at_call 38; rename_i X; exact (serviceOk_any B.ss[k] B.now _ HZS.out).mono fun _ _ h => ⟨h.1, Up.next X h.2⟩)))
            refine wpQuiet_nil ?_
            intro wn hw
            obtain ⟨X, hX⟩ := hw
            have HWN : Below wr.heap.size wr wn := by rw [hX]; exact X.h
            clear hX X x0 x1 s0 xs xn
            go_wp2
            go_meet
            exact ⟨congrArg Value.bool (by rw [h5, HR0.out]; rfl), HWN⟩
          · have hd0 : decide (0 < k) = true := by simp; omega
            obtain ⟨m, hkm⟩ : ∃ m, k = m + 1 := ⟨k - 1, by omega⟩
            have hlt0 : m < B.ss.length := by omega
            have HCM := hide ((HCL.out m hlt0).2.below HBr.out hbw)
            have t0 : ∀ X : In (Up wr), _ := fun X => Up.cell X HCM.out.c0
            have HRK : Hid (risN rSv B.ss k = rSv B.ss[m] B.ss[k]) := by
              subst hkm
              exact risN_at hlt
            have hkw : IntKind.i64.wrap ((k : Int) - 1) = m := by rw [IntWalk.i64_left]; unfold wrap64; omega
            have i2 : (0 : Int) ≤ (m : Int) := by omega
            have i3 : (m : Int) < (B.ss.length : Int) := by omega
            clear hkm h0
            cases h8 : Op.bytesLess B.ss[m].nm.toList B.ss[k].nm.toList with
            | false =>
              have HG : Hid (rSv B.ss[m] B.ss[k] = false) := h8
              repeat (go_big_quiet_step (first | (go_at_call 38; rename_i X; exact (serviceOk_any B.ss[k] B.now _ HZS.out).mono fun _ _ h => ⟨h.1, Up.next X h.2⟩)))
              refine wpQuiet_load_mid (by rfl) 50 (.tmp 38) rfl b (off + k * 13) rfl (svL B.ss[k]) _ (fun W hW => by obtain ⟨X, rfl⟩ := hW; exact rng_below HC.out.rng X.h hbr) Tryz.underlying50 rfl Sv_sizeI ?_
              simp only [Act.put, List.setIfInBounds_toArray, List.set_cons_zero, List.set_cons_succ]
              repeat (go_big_quiet_step (first | (go_at_call 38; rename_i X; exact (serviceOk_any B.ss[k] B.now _ HZS.out).mono fun _ _ h => ⟨h.1, Up.next X h.2⟩)))
              refine wpQuiet_nil ?_
              intro wn hw
              obtain ⟨X, hX⟩ := hw
              have HWN : Below wr.heap.size wr wn := by rw [hX]; exact X.h
              clear hX X x0 x1 s0 xs xn t0
              go_wp2
              go_meet
              exact ⟨congrArg Value.bool (by rw [h5, HRK.out, HG.out]; rfl), HWN⟩
            | true =>
              have HG : Hid (rSv B.ss[m] B.ss[k] = true) := h8
              repeat (go_big_quiet_step (first | (go_at_call 38; rename_i X; exact (serviceOk_any B.ss[k] B.now _ HZS.out).mono fun _ _ h => ⟨h.1, Up.next X h.2⟩)))
              refine wpQuiet_load_mid (by rfl) 50 (.tmp 38) rfl b (off + k * 13) rfl (svL B.ss[k]) _ (fun W hW => by obtain ⟨X, rfl⟩ := hW; exact rng_below HC.out.rng X.h hbr) Tryz.underlying50 rfl Sv_sizeI ?_
              simp only [Act.put, List.setIfInBounds_toArray, List.set_cons_zero, List.set_cons_succ]
              repeat (go_big_quiet_step (first | (go_at_call 38; rename_i X; exact (serviceOk_any B.ss[k] B.now _ HZS.out).mono fun _ _ h => ⟨h.1, Up.next X h.2⟩)))
              refine wpQuiet_nil ?_
              intro wn hw
              obtain ⟨X, hX⟩ := hw
              have HWN : Below wr.heap.size wr wn := by rw [hX]; exact X.h
              clear hX X x0 x1 s0 xs xn t0
              go_wp2
              go_meet
              exact ⟨congrArg Value.bool (by rw [h5, HRK.out, HG.out]; rfl), HWN⟩
      case rest =>
      obtain ⟨rfl, hbc⟩ := hcut
      have HBc : Hid (Below w.heap.size w wc) := bt HBr.out hbc
      have HXc := hide (HX.out.on hbc)
      clear hbc y
      cases h7 : svB B.now B.ss[k] with
      | false =>
        have HNo : Hid (validB B = false) := by unfold Hid; rw [HE1.out, all_no hlt h7]; cases risR rSv B.ss <;> rfl
        go_wp2
        go_ret
        exact ⟨ret_bool HNo.out.symm, HBc.out⟩
      | true =>
        cases h9 : risN rSv B.ss k with
        | false =>
          have HNo : Hid (validB B = false) := by
            unfold Hid
            rw [HE1.out, show risR rSv B.ss = false from range_not hlt h9]; cases B.ss.all (svB B.now) <;> rfl
          go_wp2
          go_ret
          exact ⟨ret_bool HNo.out.symm, HBc.out⟩
        | true =>
          have HT := hide h7
          have HT9 := hide h9
          go_wp2
          go_roundw
          case rel => exact ⟨k + 1, by go_num, by omega, HBc.out, HXc.out, step_all HAL.out hlt HT.out, fun j hj => by
                        by_cases e : j = k
                        · rw [e]; exact HT9.out
                        · exact HRI.out j (by omega)⟩
          case measure => simp [intOf]; omega
    · have HALL : Hid (B.ss.all (svB B.now) = true) := all_yes (fun i hi => HAL.out i hi (by omega))
      have HRIS : Hid (risR rSv B.ss = true) := range_all (fun i hi => HRI.out i (by omega))
      have HE2 : Hid (validB B = ((B.bs.all beB && risR rBe B.bs) && (B.cs.all (cpB B) && risR aheadB B.cs))) := by unfold Hid; rw [HE1.out, HALL.out, HRIS.out]; rfl
      have HSS := hide HALL.out
      clear HE1 HALL HRIS HAL HRI
      obtain ⟨W1, hW1⟩ : ∃ W, W = wr := ⟨_, rfl⟩
      subst hW1
      have HB1 := HBr
      have HX1 := HX
      clear HBr HX
      go_wp2
      clear y
      go_loopw [4] (fun i wr => ∃ k : Nat, i = .int .i64 k ∧ k ≤ B.bs.length ∧ Below w.heap.size w wr ∧ Box wr w.heap.size #[.int .i64 B.now, .slice a0 B.ss.length k0, .slice a1 B.cs.length k1, .slice a2 B.bs.length k2] ∧ (∀ j (hj : j < B.bs.length), j < k → beB B.bs[j] = true) ∧ (∀ j, j < k → risN rBe B.bs j = true)) (fun i _ => B.bs.length - (intOf i).toNat)
      case atStart => exact ⟨0, rfl, by omega, HB1.out, HX1.out, fun j _ h => by omega, fun j h => by omega⟩
      case round =>
        obtain ⟨k, rfl, hk, hb, hx, hall, hris⟩ := hrel
        have HAL := hide hall
        have HRI := hide hris
        have HBr := hide hb
        have HX := hide hx
        have y := hx.cell 3
        simp at y
        clear hall hb hx hris HB1 HX1
        by_cases hlt : k < B.bs.length
        · obtain ⟨b, off, rfl, hbw, -, hc⟩ := HK.out.bes.full' (by omega)
          have HCL := hide hc
          obtain ⟨hsz, hc⟩ := hc k hlt
          have HC := hide (hc.below HBr.out hbw)
          have HZS := hide hsz
          have hbr : b < wr.heap.size := Nat.lt_of_lt_of_le hbw HBr.out.size
          clear hc hsz
          go_wp2
          go_cut [98] (fun c wc => c = .bool (!(beB B.bs[k] && risN rBe B.bs k)) ∧ Below wr.heap.size wr wc)
          case first =>
            have xn : Nonempty (In (Up wr)) := ⟨⟨wr, Below.refl _ _⟩⟩
            have xs := fun (X : In (Up wr)) => in_self X
            have x3 : ∀ X : In (Up wr), X.w.cell? ⟨w.heap.size, 3, none⟩ = some (.slice (some ⟨b, off, none⟩) B.bs.length k2) := fun X => Up.cell X (by rw [HX.out.cell 3]; rfl)
            have s0 : ∀ X : In (Up wr), _ := fun X => Up.cell X HC.out.c0
            have i0 : (0 : Int) ≤ (k : Int) := by omega
            have i1 : (k : Int) < (B.bs.length : Int) := by omega
            clear y
            refine wp_region_class (Up wr) (by kernel_rfl) (by kernel_rfl) ((Below.refl _ _).drew) ?_
            cases h5 : beB B.bs[k] with
            | false =>
              have h5n : nmB B.bs[k].nm = false := h5
              repeat (go_big_quiet_step (first | (go_at_call 39; rename_i X; exact (nameOk_any _ _ HZS.out.s0).mono fun _ _ h => ⟨h.1, X, h.2⟩)))
              refine wpQuiet_nil ?_
              intro wn hw
              obtain ⟨X, hX⟩ := hw
              have HWN : Below wr.heap.size wr wn := by rw [hX]; exact X.h
              clear hX X x3 s0 xs xn
              go_wp2
              go_meet
              exact ⟨congrArg Value.bool (by rw [h5]; rfl), HWN⟩
            | true =>
              have h5n : nmB B.bs[k].nm = true := h5
              by_cases h0 : k = 0
              · have hd0 : decide (0 < k) = false := by simp; omega
                have HR0 : Hid (risN rBe B.bs k = true) := by unfold Hid; rw [h0]; rfl
                clear h0
                repeat (go_big_quiet_step (first | (go_at_call 39; rename_i X; exact (nameOk_any _ _ HZS.out.s0).mono fun _ _ h => ⟨h.1, X, h.2⟩)))
                refine wpQuiet_nil ?_
                intro wn hw
                obtain ⟨X, hX⟩ := hw
                have HWN : Below wr.heap.size wr wn := by rw [hX]; exact X.h
                clear hX X x3 s0 xs xn
                go_wp2
                go_meet
                exact ⟨congrArg Value.bool (by rw [h5, HR0.out]; rfl), HWN⟩
              · have hd0 : decide (0 < k) = true := by simp; omega
                obtain ⟨m, hkm⟩ : ∃ m, k = m + 1 := ⟨k - 1, by omega⟩
                have hlt0 : m < B.bs.length := by omega
                have HCM := hide ((HCL.out m hlt0).2.below HBr.out hbw)
                have t0 : ∀ X : In (Up wr), _ := fun X => Up.cell X HCM.out.c0
                have HRK : Hid (risN rBe B.bs k = rBe B.bs[m] B.bs[k]) := by
                  subst hkm
                  exact risN_at hlt
                have hkw : IntKind.i64.wrap ((k : Int) - 1) = m := by rw [IntWalk.i64_left]; unfold wrap64; omega
                have i2 : (0 : Int) ≤ (m : Int) := by omega
                have i3 : (m : Int) < (B.bs.length : Int) := by omega
                clear hkm h0
                cases h8 : Op.bytesLess B.bs[m].nm.toList B.bs[k].nm.toList with
                | false =>
                  have HG : Hid (rBe B.bs[m] B.bs[k] = false) := h8
                  repeat (go_big_quiet_step (first | (go_at_call 39; rename_i X; exact (nameOk_any _ _ HZS.out.s0).mono fun _ _ h => ⟨h.1, X, h.2⟩)))
                  refine wpQuiet_nil ?_
                  intro wn hw
                  obtain ⟨X, hX⟩ := hw
                  have HWN : Below wr.heap.size wr wn := by rw [hX]; exact X.h
                  clear hX X x3 s0 xs xn t0
                  go_wp2
                  go_meet
                  exact ⟨congrArg Value.bool (by rw [h5, HRK.out, HG.out]; rfl), HWN⟩
                | true =>
                  have HG : Hid (rBe B.bs[m] B.bs[k] = true) := h8
                  repeat (go_big_quiet_step (first | (go_at_call 39; rename_i X; exact (nameOk_any _ _ HZS.out.s0).mono fun _ _ h => ⟨h.1, X, h.2⟩)))
                  refine wpQuiet_nil ?_
                  intro wn hw
                  obtain ⟨X, hX⟩ := hw
                  have HWN : Below wr.heap.size wr wn := by rw [hX]; exact X.h
                  clear hX X x3 s0 xs xn t0
                  go_wp2
                  go_meet
                  exact ⟨congrArg Value.bool (by rw [h5, HRK.out, HG.out]; rfl), HWN⟩
          case rest =>
          obtain ⟨rfl, hbc⟩ := hcut
          have HBc : Hid (Below w.heap.size w wc) := bt HBr.out hbc
          have HXc := hide (HX.out.on hbc)
          clear hbc y
          cases h7 : beB B.bs[k] with
          | false =>
            have HNo : Hid (validB B = false) := by unfold Hid; rw [HE2.out, all_no hlt h7]; cases risR rBe B.bs <;> rfl
            go_wp2
            go_ret
            exact ⟨ret_bool HNo.out.symm, HBc.out⟩
          | true =>
            cases h9 : risN rBe B.bs k with
            | false =>
              have HNo : Hid (validB B = false) := by
                unfold Hid
                rw [HE2.out, show risR rBe B.bs = false from range_not hlt h9]; cases B.bs.all beB <;> rfl
              go_wp2
              go_ret
              exact ⟨ret_bool HNo.out.symm, HBc.out⟩
            | true =>
              have HT := hide h7
              have HT9 := hide h9
              go_wp2
              go_roundw
              case rel => exact ⟨k + 1, by go_num, by omega, HBc.out, HXc.out, step_all HAL.out hlt HT.out, fun j hj => by
                            by_cases e : j = k
                            · rw [e]; exact HT9.out
                            · exact HRI.out j (by omega)⟩
              case measure => simp [intOf]; omega
        · have HALL : Hid (B.bs.all (beB) = true) := all_yes (fun i hi => HAL.out i hi (by omega))
          have HRIS : Hid (risR rBe B.bs = true) := range_all (fun i hi => HRI.out i (by omega))
          have HE3 : Hid (validB B = (B.cs.all (cpB B) && risR aheadB B.cs)) := by unfold Hid; rw [HE2.out, HALL.out, HRIS.out]; rfl
          clear HE2 HALL HRIS HAL HRI
          obtain ⟨W2, hW2⟩ : ∃ W, W = wr := ⟨_, rfl⟩
          subst hW2
          have HB2 := HBr
          have HX2 := HX
          clear HBr HX
          go_wp2
          clear y
          go_loopw [5] (fun i wr => ∃ k : Nat, i = .int .i64 k ∧ k ≤ B.cs.length ∧ Below w.heap.size w wr ∧ Box wr w.heap.size #[.int .i64 B.now, .slice a0 B.ss.length k0, .slice a1 B.cs.length k1, .slice a2 B.bs.length k2] ∧ (∀ j (hj : j < B.cs.length), j < k → cpB B B.cs[j] = true) ∧ (∀ j, j < k → risN aheadB B.cs j = true)) (fun i _ => B.cs.length - (intOf i).toNat)
          case atStart => exact ⟨0, rfl, by omega, HB2.out, HX2.out, fun j _ h => by omega, fun j h => by omega⟩
          case round =>
            obtain ⟨k, rfl, hk, hb, hx, hall, hris⟩ := hrel
            have HAL := hide hall
            have HRI := hide hris
            have HBr := hide hb
            have HX := hide hx
            have y := hx.cell 2
            simp at y
            clear hall hb hx hris HB2 HX2
            by_cases hlt : k < B.cs.length
            · obtain ⟨b, off, rfl, hbw, -, hc⟩ := HK.out.cps.full' (by omega)
              have HCL := hide hc
              obtain ⟨hsz, hc⟩ := hc k hlt
              have HC := hide (hc.below HBr.out hbw)
              have HZS := hide hsz
              have hbr : b < wr.heap.size := Nat.lt_of_lt_of_le hbw HBr.out.size
              clear hc hsz
              go_wp2
              go_cut [132] (fun c wc => c = .bool (!(cpB B B.cs[k] && risN aheadB B.cs k)) ∧ Below wr.heap.size wr wc)
              case first =>
                have xn : Nonempty (In (Up wr)) := ⟨⟨wr, Below.refl _ _⟩⟩
                have xs := fun (X : In (Up wr)) => in_self X
                have x0 : ∀ X : In (Up wr), X.w.cell? ⟨w.heap.size, 0, none⟩ = some (.int .i64 B.now) := fun X => Up.cell X (by rw [HX.out.cell 0]; rfl)
                have x1 : ∀ X : In (Up wr), X.w.cell? ⟨w.heap.size, 1, none⟩ = some (.slice a0 B.ss.length k0) := fun X => Up.cell X (by rw [HX.out.cell 1]; rfl)
                have x2 : ∀ X : In (Up wr), X.w.cell? ⟨w.heap.size, 2, none⟩ = some (.slice (some ⟨b, off, none⟩) B.cs.length k1) := fun X => Up.cell X (by rw [HX.out.cell 2]; rfl)
                have x3 : ∀ X : In (Up wr), X.w.cell? ⟨w.heap.size, 3, none⟩ = some (.slice a2 B.bs.length k2) := fun X => Up.cell X (by rw [HX.out.cell 3]; rfl)
                have s0 : ∀ X : In (Up wr), _ := fun X => Up.cell X HC.out.c0
                have s1 : ∀ X : In (Up wr), _ := fun X => Up.cell X HC.out.c1
                have s2 : ∀ X : In (Up wr), _ := fun X => Up.cell X HC.out.c2
                have s3 : ∀ X : In (Up wr), _ := fun X => Up.cell X HC.out.c3
                have s4 : ∀ X : In (Up wr), _ := fun X => Up.cell X HC.out.c4
                have s5 : ∀ X : In (Up wr), _ := fun X => Up.cell X HC.out.c5
                have s6 : ∀ X : In (Up wr), _ := fun X => Up.cell X HC.out.c6
                have i0 : (0 : Int) ≤ (k : Int) := by omega
                have i1 : (k : Int) < (B.cs.length : Int) := by omega
                clear y
                refine wp_region_class (Up wr) (by kernel_rfl) (by kernel_rfl) ((Below.refl _ _).drew) ?_
                cases h5 : cpB B B.cs[k] with
                | false =>
                  repeat (go_big_quiet_step (first | (go_at_call 40; rename_i X; exact (copyOk_any lo _ _ _ B B.cs[k] _ (HK.out.below (bt HBr.out X.h)) HSS.out).mono fun _ _ h => ⟨h.1, Up.next X h.2⟩)))
                  refine wpQuiet_nil ?_
                  intro wn hw
                  obtain ⟨X, hX⟩ := hw
                  have HWN : Below wr.heap.size wr wn := by rw [hX]; exact X.h
                  clear hX X x0 x1 x2 x3 s0 s1 s2 s3 s4 s5 s6 xs xn
                  go_wp2
                  go_meet
                  exact ⟨congrArg Value.bool (by rw [h5]; rfl), HWN⟩
                | true =>
                  by_cases h0 : k = 0
                  · have hd0 : decide (0 < k) = false := by simp; omega
                    have HR0 : Hid (risN aheadB B.cs k = true) := by unfold Hid; rw [h0]; rfl
                    clear h0
                    repeat (go_big_quiet_step (first | (go_at_call 40; rename_i X; exact (copyOk_any lo _ _ _ B B.cs[k] _ (HK.out.below (bt HBr.out X.h)) HSS.out).mono fun _ _ h => ⟨h.1, Up.next X h.2⟩)))
                    refine wpQuiet_nil ?_
                    intro wn hw
                    obtain ⟨X, hX⟩ := hw
                    have HWN : Below wr.heap.size wr wn := by rw [hX]; exact X.h
                    clear hX X x0 x1 x2 x3 s0 s1 s2 s3 s4 s5 s6 xs xn
                    go_wp2
                    go_meet
                    exact ⟨congrArg Value.bool (by rw [h5, HR0.out]; rfl), HWN⟩
                  · have hd0 : decide (0 < k) = true := by simp; omega
                    obtain ⟨m, hkm⟩ : ∃ m, k = m + 1 := ⟨k - 1, by omega⟩
                    have hlt0 : m < B.cs.length := by omega
                    have HCM := hide ((HCL.out m hlt0).2.below HBr.out hbw)
                    have t0 : ∀ X : In (Up wr), _ := fun X => Up.cell X HCM.out.c0
                    have t1 : ∀ X : In (Up wr), _ := fun X => Up.cell X HCM.out.c1
                    have t2 : ∀ X : In (Up wr), _ := fun X => Up.cell X HCM.out.c2
                    have t3 : ∀ X : In (Up wr), _ := fun X => Up.cell X HCM.out.c3
                    have t4 : ∀ X : In (Up wr), _ := fun X => Up.cell X HCM.out.c4
                    have t5 : ∀ X : In (Up wr), _ := fun X => Up.cell X HCM.out.c5
                    have t6 : ∀ X : In (Up wr), _ := fun X => Up.cell X HCM.out.c6
                    have HRK : Hid (risN aheadB B.cs k = aheadB B.cs[m] B.cs[k]) := by
                      subst hkm
                      exact risN_at hlt
                    have hkw : IntKind.i64.wrap ((k : Int) - 1) = m := by rw [IntWalk.i64_left]; unfold wrap64; omega
                    have i2 : (0 : Int) ≤ (m : Int) := by omega
                    have i3 : (m : Int) < (B.cs.length : Int) := by omega
                    clear hkm h0
                    cases h8 : aheadB B.cs[m] B.cs[k] with
                    | false =>
                      repeat (go_big_quiet_step (first | (go_at_call 40; rename_i X; exact (copyOk_any lo _ _ _ B B.cs[k] _ (HK.out.below (bt HBr.out X.h)) HSS.out).mono fun _ _ h => ⟨h.1, Up.next X h.2⟩) | (go_at_call 41; rename_i X; exact (ahead_any B.cs[m] B.cs[k] _).mono fun _ _ h => ⟨h.1, Up.next X h.2⟩)))
                      refine wpQuiet_nil ?_
                      intro wn hw
                      obtain ⟨X, hX⟩ := hw
                      have HWN : Below wr.heap.size wr wn := by rw [hX]; exact X.h
                      clear hX X x0 x1 x2 x3 s0 s1 s2 s3 s4 s5 s6 xs xn t0 t1 t2 t3 t4 t5 t6
                      go_wp2
                      go_meet
                      exact ⟨congrArg Value.bool (by rw [h5, HRK.out, h8]; rfl), HWN⟩
                    | true =>
                      repeat (go_big_quiet_step (first | (go_at_call 40; rename_i X; exact (copyOk_any lo _ _ _ B B.cs[k] _ (HK.out.below (bt HBr.out X.h)) HSS.out).mono fun _ _ h => ⟨h.1, Up.next X h.2⟩) | (go_at_call 41; rename_i X; exact (ahead_any B.cs[m] B.cs[k] _).mono fun _ _ h => ⟨h.1, Up.next X h.2⟩)))
                      refine wpQuiet_nil ?_
                      intro wn hw
                      obtain ⟨X, hX⟩ := hw
                      have HWN : Below wr.heap.size wr wn := by rw [hX]; exact X.h
                      clear hX X x0 x1 x2 x3 s0 s1 s2 s3 s4 s5 s6 xs xn t0 t1 t2 t3 t4 t5 t6
                      go_wp2
                      go_meet
                      exact ⟨congrArg Value.bool (by rw [h5, HRK.out, h8]; rfl), HWN⟩
              case rest =>
              obtain ⟨rfl, hbc⟩ := hcut
              have HBc : Hid (Below w.heap.size w wc) := bt HBr.out hbc
              have HXc := hide (HX.out.on hbc)
              clear hbc y
              cases h7 : cpB B B.cs[k] with
              | false =>
                have HNo : Hid (validB B = false) := by unfold Hid; rw [HE3.out, all_no hlt h7]; rfl
                go_wp2
                go_ret
                exact ⟨ret_bool HNo.out.symm, HBc.out⟩
              | true =>
                cases h9 : risN aheadB B.cs k with
                | false =>
                  have HNo : Hid (validB B = false) := by
                    unfold Hid
                    rw [HE3.out, show risR aheadB B.cs = false from range_not hlt h9]; cases B.cs.all (cpB B) <;> rfl
                  go_wp2
                  go_ret
                  exact ⟨ret_bool HNo.out.symm, HBc.out⟩
                | true =>
                  have HT := hide h7
                  have HT9 := hide h9
                  go_wp2
                  go_roundw
                  case rel => exact ⟨k + 1, by go_num, by omega, HBc.out, HXc.out, step_all HAL.out hlt HT.out, fun j hj => by
                                by_cases e : j = k
                                · rw [e]; exact HT9.out
                                · exact HRI.out j (by omega)⟩
                  case measure => simp [intOf]; omega
            · have HALL : Hid (B.cs.all (cpB B) = true) := all_yes (fun i hi => HAL.out i hi (by omega))
              have HRIS : Hid (risR aheadB B.cs = true) := range_all (fun i hi => HRI.out i (by omega))
              have HT : Hid (validB B = true) := by unfold Hid; rw [HE3.out, HALL.out, HRIS.out]; rfl
              go_wp2
              go_ret
              exact ⟨ret_bool HT.out.symm, HBr.out⟩
end
end Go.Proofs.YtpdlcccnlciecaaGreat
