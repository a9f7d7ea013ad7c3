import Derived.Test.YtoklnkojacdciaaG16
namespace Go.Proofs.Ytoklnkojacdciaa
open Go.RowKit Go.Deep

/-! spec.RecDiskOk -/
def dokB (D : Rd) (i : Nat) : Bool := match D.sl[i]? with
  | some x => !(decide (D.pr < x.ba) || (decide ((i : Int) < D.kn) && x.ba == 0))
  | none => true
def diskB (D : Rd) : Bool := inB 0 1000000 D.pr && (slotsB D.sl && (inB 0 (D.sl.length : Nat) D.kn && (List.range D.sl.length).all (dokB D)))
theorem dokB_at {D : Rd} {k : Nat} (h : k < D.sl.length) : dokB D k = !(decide (D.pr < D.sl[k].ba) || (decide ((k : Int) < D.kn) && D.sl[k].ba == 0)) := by
  unfold dokB
  rw [List.getElem?_eq_getElem h]

set_option maxRecDepth 20000 in
set_option maxHeartbeats 8000000 in
theorem specDisk_any (lo : Nat) (cs : List Value) (D : Rd) (w : World) (h : RdC lo w cs D) :
    Calls Try.prog 67 #[.agg cs.toArray] w fun e w' => e = .returned (.bool (diskB D)) ∧ Below w.heap.size w w' := by
  obtain ⟨a0, k0, rfl, h⟩ := h
  show Calls Try.prog 67 #[.agg #[.int .i64 D.pr, .int .i64 D.kn, .slice a0 D.sl.length k0]] w _
  have HK := hide h
  have hm := h.l0.max
  unfold maxLen at hm
  clear h
  have HI : Hid (diskB D = (inB 0 1000000 D.pr && (slotsB D.sl && (inB 0 (D.sl.length : Nat) D.kn && (List.range D.sl.length).all (dokB D))))) := rfl
  have HO : ∀ o, Hid (Below w.heap.size w (w.alloc o)) := fun o => one_al w o
  go_enter Try.func67, Try.ntmps67
  cases h1 : inB 0 1000000 D.pr with
  | false =>
    have HE : Hid (diskB D = false) := by unfold Hid; rw [HI.out, h1]; rfl
    go_wp2_with (go_at_call 20; refine (in21_any _ _ _ _).mono ?_; rintro e w' ⟨rfl, rfl⟩)
    go_ret
    exact ⟨ret_bool HE.out.symm, (HO _).out⟩
  | true =>
  cases h2 : slotsB D.sl with
  | false =>
    have HE : Hid (diskB D = false) := by unfold Hid; rw [HI.out, h1, h2]; rfl
    go_wp2_with (first
      | (go_at_call 20; refine (in21_any _ _ _ _).mono ?_; rintro e w' ⟨rfl, rfl⟩)
      | (go_at_call 70; refine (slotsOk_any lo _ D.sl _ (HK.out.below (HO _).out).l0).mono ?_; rintro e w' ⟨rfl, rfl⟩))
    go_ret
    exact ⟨ret_bool HE.out.symm, (HO _).out⟩
  | true =>
  cases h3 : inB 0 (D.sl.length : Nat) D.kn with
  | false =>
    have HE : Hid (diskB D = false) := by unfold Hid; rw [HI.out, h1, h2, h3]; rfl
    go_wp2_with (first
      | (go_at_call_of 20 (.int .i64 D.pr); refine (in21_any _ _ _ _).mono ?_; rintro e w' ⟨rfl, rfl⟩)
      | (go_at_call 20; refine (in21_any _ _ _ _).mono ?_; rintro e w' ⟨rfl, rfl⟩)
      | (go_at_call 70; refine (slotsOk_any lo _ D.sl _ (HK.out.below (HO _).out).l0).mono ?_; rintro e w' ⟨rfl, rfl⟩))
    go_ret
    exact ⟨ret_bool HE.out.symm, (HO _).out⟩
  | true =>
  have HE1 : Hid (diskB D = (List.range D.sl.length).all (dokB D)) := by unfold Hid; rw [HI.out, h1, h2, h3]; rfl
  go_wp2_with (first
    | (go_at_call 20; refine (in21_any _ _ _ _).mono ?_; rintro e w' ⟨rfl, rfl⟩)
    | (go_at_call 70; refine (slotsOk_any lo _ D.sl _ (HK.out.below (HO _).out).l0).mono ?_; rintro e w' ⟨rfl, rfl⟩))
  generalize hWa : w.alloc _ = Wa
  have HB0 : Hid (Below w.heap.size w Wa) := by rw [← hWa]; exact one_al w _
  have HX : Hid (Box Wa w.heap.size #[.int .i64 D.pr, .int .i64 D.kn, .slice a0 D.sl.length k0]) := by rw [← hWa]; exact Box.new _ _ _ _ rfl
  clear hWa h1 h2 h3 HO
  go_loopw [3] (fun i wr => ∃ k : Nat, i = .int .i64 k ∧ k ≤ D.sl.length ∧ Below Wa.heap.size Wa wr ∧ ∀ j, j < k → dokB D j = true) (fun i _ => D.sl.length - (intOf i).toNat)
  case atStart => exact ⟨0, rfl, by omega, Below.refl _ _, fun j h => by omega⟩
  case round =>
    obtain ⟨k, rfl, hk, hb, hall⟩ := hrel
    have HAL := hide hall
    have HBr := hide hb
    have y := (HX.out.on hb).cell 2
    simp at y
    clear hall hb
    by_cases hlt : k < D.sl.length
    · obtain ⟨b, off, rfl, hbw, -, hc⟩ := HK.out.l0.full' (by omega)
      obtain ⟨hsz, hcc⟩ := hc k hlt
      obtain ⟨x, hx⟩ : ∃ x, x = D.sl[k] := ⟨_, rfl⟩
      have HDK : Hid (dokB D k = !(decide (D.pr < x.ba) || (decide ((k : Int) < D.kn) && x.ba == 0))) := by unfold Hid; rw [hx]; exact dokB_at hlt
      rw [← hx] at hcc
      have HC := hide (hcc.below (bt HB0.out HBr.out) hbw)
      clear hc hsz hcc hx
      go_wp2
      go_cut [53] (fun c wc => c = .bool (!(dokB D k)) ∧ Below wr.heap.size wr wc)
      case first =>
        have xn : Nonempty (In (Up wr)) := ⟨⟨wr, Below.refl _ _⟩⟩
        have xs := fun (X : In (Up wr)) => in_self X
        have x0 : ∀ X : In (Up wr), X.w.cell? ⟨w.heap.size, 0, none⟩ = some (.int .i64 D.pr) := fun X => Up.cell X (by rw [(HX.out.on HBr.out).cell 0]; rfl)
        have x1 : ∀ X : In (Up wr), X.w.cell? ⟨w.heap.size, 1, none⟩ = some (.int .i64 D.kn) := fun X => Up.cell X (by rw [(HX.out.on HBr.out).cell 1]; rfl)
        have x2 : ∀ X : In (Up wr), X.w.cell? ⟨w.heap.size, 2, none⟩ = some (.slice (some ⟨b, off, none⟩) D.sl.length k0) := fun X => Up.cell X (by rw [(HX.out.on HBr.out).cell 2]; rfl)
        have s0 : ∀ X : In (Up wr), _ := fun X => Up.cell X HC.out.c0
        have i0 : (0 : Int) ≤ (k : Int) := by omega
        have i1 : (k : Int) < (D.sl.length : Int) := by omega
        clear y
        refine wp_region_class (Up wr) (by kernel_rfl) (by kernel_rfl) ((Below.refl _ _).drew) ?_
        cases q1 : decide (D.pr < x.ba) with
        | true =>
          repeat (go_big_quiet_step (fail))
          refine wpQuiet_nil ?_
          intro wn hw
          obtain ⟨X, hX⟩ := hw
          have HWN : Below wr.heap.size wr wn := by rw [hX]; exact X.h
          clear hX X x0 x1 x2 s0 xs xn
          go_wp2
          go_meet
          exact ⟨congrArg Value.bool (by rw [HDK.out, q1]; rfl), HWN⟩
        | false =>
          cases q2 : decide ((k : Int) < D.kn) with
          | false =>
            repeat (go_big_quiet_step (fail))
            refine wpQuiet_nil ?_
            intro wn hw
            obtain ⟨X, hX⟩ := hw
            have HWN : Below wr.heap.size wr wn := by rw [hX]; exact X.h
            clear hX X x0 x1 x2 s0 xs xn
            go_wp2
            go_meet
            exact ⟨congrArg Value.bool (by rw [HDK.out, q1, q2]; rfl), HWN⟩
          | true =>
            cases q3 : (x.ba == 0) with
            | false =>
              repeat (go_big_quiet_step (fail))
              refine wpQuiet_nil ?_
              intro wn hw
              obtain ⟨X, hX⟩ := hw
              have HWN : Below wr.heap.size wr wn := by rw [hX]; exact X.h
              clear hX X x0 x1 x2 s0 xs xn
              go_wp2
              go_meet
              exact ⟨congrArg Value.bool (by rw [HDK.out, q1, q2, q3]; rfl), HWN⟩
            | true =>
              repeat (go_big_quiet_step (fail))
              refine wpQuiet_nil ?_
              intro wn hw
              obtain ⟨X, hX⟩ := hw
              have HWN : Below wr.heap.size wr wn := by rw [hX]; exact X.h
              clear hX X x0 x1 x2 s0 xs xn
              go_wp2
              go_meet
              exact ⟨congrArg Value.bool (by rw [HDK.out, q1, q2, q3]; rfl), HWN⟩
      case rest =>
      obtain ⟨rfl, hbc⟩ := hcut
      have HBc : Hid (Below Wa.heap.size Wa wc) := bt HBr.out hbc
      clear hbc y
      cases h7 : dokB D k with
      | false =>
        have HNo : Hid (diskB D = false) := by unfold Hid; rw [HE1.out]; exact range_not hlt h7
        go_wp2
        go_ret
        exact ⟨ret_bool HNo.out.symm, bt HB0.out HBc.out⟩
      | true =>
        have HT := hide h7
        go_wp2
        go_roundw
        case rel => exact ⟨k + 1, by go_num, by omega, HBc.out, fun j hj => by
                      by_cases e : j = k
                      · rw [e]; exact HT.out
                      · exact HAL.out j (by omega)⟩
        case measure => simp [intOf]; omega
    · have HE2 : Hid (diskB D = true) := by unfold Hid; rw [HE1.out]; exact range_all (fun i hi => HAL.out i (by omega))
      go_wp2
      go_ret
      exact ⟨ret_bool HE2.out.symm, bt HB0.out HBr.out⟩
end Go.Proofs.Ytoklnkojacdciaa
