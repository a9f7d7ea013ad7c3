
import Derived.Test.YthecacabcgaenaaWW
import Derived.Test.YthecacabcgaenaaSW
namespace Go.Proofs.Ythecacabcgaenaa
open Go.RowKit Go.Deep

/-! spec.StewWorldOk -/
def rNow (a b : Sb) : Bool := decide (a.now ≤ b.now)
def pokB (n : Int) (B : Sb) : Bool := validB B && decide (B.now ≤ n)
/-- a world is ok -/
def worldB (U : Sw) : Bool := validB U.bk && (decide (U.past.length ≤ 8) && (U.past.all (pokB U.bk.now) && risR rNow U.past))

set_option maxRecDepth 20000 in
set_option maxHeartbeats 8000000 in
theorem specWorld_any (lo : Nat) (cs : List Value) (U : Sw) (w : World) (h : SwC lo w cs U) :
    Calls Try.prog 5 #[.agg cs.toArray] w fun e w' => e = .returned (.bool (worldB U)) ∧ Below w.heap.size w w' := by
  obtain ⟨a0, k0, a1, k1, a2, k2, a3, k3, rfl, h⟩ := h
  show Calls Try.prog 5 #[.agg #[.slice a3 U.past.length k3, .int .i64 U.bk.now, .slice a0 U.bk.ss.length k0, .slice a1 U.bk.cs.length k1, .slice a2 U.bk.bs.length k2]] w _
  have HK := hide h
  have hm := h.ls.max
  unfold maxLen at hm
  clear h
  go_enter Try.func5, Try.ntmps5
  have HI : Hid (worldB U = (validB U.bk && (decide (U.past.length ≤ 8) && (U.past.all (pokB U.bk.now) && risR rNow U.past)))) := rfl
  have HO : ∀ o, Hid (Below w.heap.size w (w.alloc o)) := fun o => one_al w o
  cases h0 : validB U.bk with
  | false =>
    have HE : Hid (worldB U = false) := by unfold Hid; rw [HI.out, h0]; rfl
    go_wp2_with (go_at_call 11; refine (specValid_any lo _ _ _ U.bk _ (HK.out.bk.below (HO _).out)).mono ?_; rintro e wz ⟨rfl, hbz⟩)
    go_ret
    exact ⟨ret_bool HE.out.symm, bt (HO _).out hbz⟩
  | true =>
  go_wp2_with fail
  generalize hWa : w.alloc _ = Wa
  have HB0 : Hid (Below w.heap.size w Wa) := by rw [← hWa]; exact one_al w _
  have HX0 : Hid (Box Wa w.heap.size #[.slice a3 U.past.length k3, .int .i64 U.bk.now, .slice a0 U.bk.ss.length k0, .slice a1 U.bk.cs.length k1, .slice a2 U.bk.bs.length k2]) := by rw [← hWa]; exact Box.new _ _ _ _ rfl
  clear hWa HO
  refine (specValid_any lo _ _ _ U.bk _ (HK.out.bk.below HB0.out)).mono ?_
  rintro e w1 ⟨rfl, hb1⟩
  have HB1 : Hid (Below w.heap.size w w1) := bt HB0.out hb1
  have HX1 := hide (HX0.out.on hb1)
  clear hb1 HB0 HX0
  have c0 := HX1.out.cell 0
  simp at c0
  by_cases l0 : U.past.length ≤ 8
  case neg =>
    have hgt : decide ((8 : Int) < (U.past.length : Int)) = true := by simp; omega
    have HE : Hid (worldB U = false) := by unfold Hid; rw [HI.out, h0, decide_eq_false l0]; rfl
    go_wp2
    go_ret
    exact ⟨ret_bool HE.out.symm, HB1.out⟩
  have gl0 : decide ((8 : Int) < (U.past.length : Int)) = false := by simp; omega
  have HE1 : Hid (worldB U = (U.past.all (pokB U.bk.now) && risR rNow U.past)) := by unfold Hid; rw [HI.out, h0, decide_eq_true l0]; rfl
  go_wp2
  clear c0 h0 gl0
  go_loopw [3] (fun i wr => ∃ k : Nat, i = .int .i64 k ∧ k ≤ U.past.length ∧ Below w.heap.size w wr ∧ Box wr w.heap.size #[.slice a3 U.past.length k3, .int .i64 U.bk.now, .slice a0 U.bk.ss.length k0, .slice a1 U.bk.cs.length k1, .slice a2 U.bk.bs.length k2] ∧ (∀ j (hj : j < U.past.length), j < k → pokB U.bk.now U.past[j] = true) ∧ (∀ j, j < k → risN rNow U.past j = true)) (fun i _ => U.past.length - (intOf i).toNat)
  case atStart => exact ⟨0, rfl, by omega, HB1.out, HX1.out, fun j _ h => by omega, fun j h => by omega⟩
  case round =>
    obtain ⟨k, rfl, hk, hb, hx, hall, hris⟩ := hrel
    have HAL := hide hall
    have HRI := hide hris
    have HBr := hide hb
    have HX := hide hx
    have y := hx.cell 0
    simp at y
    clear hall hb hx hris HB1 HX1
    by_cases hlt : k < U.past.length
    · obtain ⟨b, off, rfl, hbw, -, hc⟩ := HK.out.ls.full' (by omega)
      have HCL := hide hc
      obtain ⟨_, hr, c0, m0, c1, m1, c2, m2, rfl, hAt⟩ := hc k hlt
      have HR : Hid (wr.rangeAt b (off + k * 4) [.int .i64 U.past[k].now, .slice c0 U.past[k].ss.length m0, .slice c1 U.past[k].cs.length m1, .slice c2 U.past[k].bs.length m2]) := rng_below hr HBr.out hbw
      have HBK := hide (hAt.below HBr.out)
      have hbr : b < wr.heap.size := Nat.lt_of_lt_of_le hbw HBr.out.size
      clear hc hr hAt
      go_wp2
      go_cut [59] (fun c wc => c = .bool (!(pokB U.bk.now U.past[k] && risN rNow U.past k)) ∧ Below wr.heap.size wr wc)
      case first =>
        have xn : Nonempty (In (Up wr)) := ⟨⟨wr, Below.refl _ _⟩⟩
        have xs := fun (X : In (Up wr)) => in_self X
        have x0 : ∀ X : In (Up wr), X.w.cell? ⟨w.heap.size, 0, none⟩ = some (.slice (some ⟨b, off, none⟩) U.past.length k3) := fun X => Up.cell X (by rw [HX.out.cell 0]; rfl)
        have x1 : ∀ X : In (Up wr), X.w.cell? ⟨w.heap.size, 1, none⟩ = some (.int .i64 U.bk.now) := fun X => Up.cell X (by rw [HX.out.cell 1]; rfl)
        have s0 : ∀ X : In (Up wr), X.w.cell? ⟨b, off + k * 4, none⟩ = some (.int .i64 U.past[k].now) := fun X => Up.cell X (HR.out 0 _ rfl)
        have i0 : (0 : Int) ≤ (k : Int) := by omega
        have i1 : (k : Int) < (U.past.length : Int) := by omega
        clear y
        refine wp_region_class (Up wr) (by kernel_rfl) (by kernel_rfl) ((Below.refl _ _).drew) ?_
        cases h5 : validB U.past[k] with
        | false =>
          have HP : Hid (pokB U.bk.now U.past[k] = false) := by unfold Hid pokB; rw [h5]; rfl
          repeat (go_big_quiet_step (first | (go_at_call 11; rename_i X; exact (specValid_any lo _ _ _ U.past[k] _ (HBK.out.below X.h)).mono fun _ _ h => ⟨h.1, Up.next X h.2⟩)))
          refine wpQuiet_load_mid (by rfl) 37 (.tmp 24) rfl b (off + k * 4) rfl [.int .i64 U.past[k].now, .slice c0 U.past[k].ss.length m0, .slice c1 U.past[k].cs.length m1, .slice c2 U.past[k].bs.length m2] _ (fun W hW => by obtain ⟨X, rfl⟩ := hW; exact rng_below HR.out X.h hbr) Try.underlying37 rfl Sb_sizeI ?_
          simp only [Act.put, List.setIfInBounds_toArray, List.set_cons_zero, List.set_cons_succ]
          repeat (go_big_quiet_step (first | (go_at_call 11; rename_i X; exact (specValid_any lo _ _ _ U.past[k] _ (HBK.out.below X.h)).mono fun _ _ h => ⟨h.1, Up.next X h.2⟩)))
          refine wpQuiet_nil ?_
          intro wn hw
          obtain ⟨X, hX⟩ := hw
          have HWN : Below wr.heap.size wr wn := by rw [hX]; exact X.h
          clear hX X x0 x1 s0 xs xn
          go_wp2
          go_meet
          exact ⟨congrArg Value.bool (by rw [HP.out]; rfl), HWN⟩
        | true =>
          by_cases h6 : U.past[k].now ≤ U.bk.now
          case neg =>
            have hd6 : decide (U.bk.now < U.past[k].now) = true := by simp; omega
            have HP : Hid (pokB U.bk.now U.past[k] = false) := by unfold Hid pokB; rw [h5, decide_eq_false h6]; rfl
            clear h6
            repeat (go_big_quiet_step (first | (go_at_call 11; rename_i X; exact (specValid_any lo _ _ _ U.past[k] _ (HBK.out.below X.h)).mono fun _ _ h => ⟨h.1, Up.next X h.2⟩)))
            refine wpQuiet_load_mid (by rfl) 37 (.tmp 24) rfl b (off + k * 4) rfl [.int .i64 U.past[k].now, .slice c0 U.past[k].ss.length m0, .slice c1 U.past[k].cs.length m1, .slice c2 U.past[k].bs.length m2] _ (fun W hW => by obtain ⟨X, rfl⟩ := hW; exact rng_below HR.out X.h hbr) Try.underlying37 rfl Sb_sizeI ?_
            simp only [Act.put, List.setIfInBounds_toArray, List.set_cons_zero, List.set_cons_succ]
            repeat (go_big_quiet_step (first | (go_at_call 11; rename_i X; exact (specValid_any lo _ _ _ U.past[k] _ (HBK.out.below X.h)).mono fun _ _ h => ⟨h.1, Up.next X h.2⟩)))
            refine wpQuiet_nil ?_
            intro wn hw
            obtain ⟨X, hX⟩ := hw
            have HWN : Below wr.heap.size wr wn := by rw [hX]; exact X.h
            clear hX X x0 x1 s0 xs xn
            go_wp2
            go_meet
            exact ⟨congrArg Value.bool (by rw [HP.out]; rfl), HWN⟩
          have hd6 : decide (U.bk.now < U.past[k].now) = false := by simp; omega
          have HP : Hid (pokB U.bk.now U.past[k] = true) := by unfold Hid pokB; rw [h5, decide_eq_true h6]; rfl
          clear h6
          by_cases h0 : k = 0
          · have hd0 : decide (0 < k) = false := by simp; omega
            have HR0 : Hid (risN rNow U.past k = true) := by unfold Hid; rw [h0]; rfl
            clear h0
            repeat (go_big_quiet_step (first | (go_at_call 11; rename_i X; exact (specValid_any lo _ _ _ U.past[k] _ (HBK.out.below X.h)).mono fun _ _ h => ⟨h.1, Up.next X h.2⟩)))
            refine wpQuiet_load_mid (by rfl) 37 (.tmp 24) rfl b (off + k * 4) rfl [.int .i64 U.past[k].now, .slice c0 U.past[k].ss.length m0, .slice c1 U.past[k].cs.length m1, .slice c2 U.past[k].bs.length m2] _ (fun W hW => by obtain ⟨X, rfl⟩ := hW; exact rng_below HR.out X.h hbr) Try.underlying37 rfl Sb_sizeI ?_
            simp only [Act.put, List.setIfInBounds_toArray, List.set_cons_zero, List.set_cons_succ]
            repeat (go_big_quiet_step (first | (go_at_call 11; rename_i X; exact (specValid_any lo _ _ _ U.past[k] _ (HBK.out.below X.h)).mono fun _ _ h => ⟨h.1, Up.next X h.2⟩)))
            refine wpQuiet_nil ?_
            intro wn hw
            obtain ⟨X, hX⟩ := hw
            have HWN : Below wr.heap.size wr wn := by rw [hX]; exact X.h
            clear hX X x0 x1 s0 xs xn
            go_wp2
            go_meet
            exact ⟨congrArg Value.bool (by rw [HP.out, HR0.out]; rfl), HWN⟩
          · have hd0 : decide (0 < k) = true := by simp; omega
            obtain ⟨m, hkm⟩ : ∃ m, k = m + 1 := ⟨k - 1, by omega⟩
            have hlt0 : m < U.past.length := by omega
            have HCM : Hid (wr.cell? ⟨b, off + m * 4, none⟩ = some (.int .i64 U.past[m].now)) := by
              obtain ⟨_, hr, d0, n0, d1, n1, d2, n2, rfl, hAt⟩ := HCL.out m hlt0
              exact rng_below hr HBr.out hbw 0 _ rfl
            have t0 : ∀ X : In (Up wr), X.w.cell? ⟨b, off + m * 4, none⟩ = some (.int .i64 U.past[m].now) := fun X => Up.cell X HCM.out
            have HRK : Hid (risN rNow U.past k = rNow U.past[m] U.past[k]) := by
              subst hkm
              exact risN_at hlt
            have hkw : IntKind.i64.wrap ((k : Int) - 1) = m := by rw [IntWalk.i64_left]; unfold wrap64; omega
            have i2 : (0 : Int) ≤ (m : Int) := by omega
            have i3 : (m : Int) < (U.past.length : Int) := by omega
            clear hkm h0
            by_cases h8 : U.past[m].now ≤ U.past[k].now
            case neg =>
              have hd8 : decide (U.past[k].now < U.past[m].now) = true := by simp; omega
              have HG : Hid (rNow U.past[m] U.past[k] = false) := decide_eq_false h8
              clear h8
              repeat (go_big_quiet_step (first | (go_at_call 11; rename_i X; exact (specValid_any lo _ _ _ U.past[k] _ (HBK.out.below X.h)).mono fun _ _ h => ⟨h.1, Up.next X h.2⟩)))
              refine wpQuiet_load_mid (by rfl) 37 (.tmp 24) rfl b (off + k * 4) rfl [.int .i64 U.past[k].now, .slice c0 U.past[k].ss.length m0, .slice c1 U.past[k].cs.length m1, .slice c2 U.past[k].bs.length m2] _ (fun W hW => by obtain ⟨X, rfl⟩ := hW; exact rng_below HR.out X.h hbr) Try.underlying37 rfl Sb_sizeI ?_
              simp only [Act.put, List.setIfInBounds_toArray, List.set_cons_zero, List.set_cons_succ]
              repeat (go_big_quiet_step (first | (go_at_call 11; rename_i X; exact (specValid_any lo _ _ _ U.past[k] _ (HBK.out.below X.h)).mono fun _ _ h => ⟨h.1, Up.next X h.2⟩)))
              refine wpQuiet_nil ?_
              intro wn hw
              obtain ⟨X, hX⟩ := hw
              have HWN : Below wr.heap.size wr wn := by rw [hX]; exact X.h
              clear hX X x0 x1 s0 xs xn t0
              go_wp2
              go_meet
              exact ⟨congrArg Value.bool (by rw [HP.out, HRK.out, HG.out]; rfl), HWN⟩
            have hd8 : decide (U.past[k].now < U.past[m].now) = false := by simp; omega
            have HG : Hid (rNow U.past[m] U.past[k] = true) := decide_eq_true h8
            clear h8
            repeat (go_big_quiet_step (first | (go_at_call 11; rename_i X; exact (specValid_any lo _ _ _ U.past[k] _ (HBK.out.below X.h)).mono fun _ _ h => ⟨h.1, Up.next X h.2⟩)))
            refine wpQuiet_load_mid (by rfl) 37 (.tmp 24) rfl b (off + k * 4) rfl [.int .i64 U.past[k].now, .slice c0 U.past[k].ss.length m0, .slice c1 U.past[k].cs.length m1, .slice c2 U.past[k].bs.length m2] _ (fun W hW => by obtain ⟨X, rfl⟩ := hW; exact rng_below HR.out X.h hbr) Try.underlying37 rfl Sb_sizeI ?_
            simp only [Act.put, List.setIfInBounds_toArray, List.set_cons_zero, List.set_cons_succ]
            repeat (go_big_quiet_step (first | (go_at_call 11; rename_i X; exact (specValid_any lo _ _ _ U.past[k] _ (HBK.out.below X.h)).mono fun _ _ h => ⟨h.1, Up.next X h.2⟩)))
            refine wpQuiet_nil ?_
            intro wn hw
            obtain ⟨X, hX⟩ := hw
            have HWN : Below wr.heap.size wr wn := by rw [hX]; exact X.h
            clear hX X x0 x1 s0 xs xn t0
            go_wp2
            go_meet
            exact ⟨congrArg Value.bool (by rw [HP.out, HRK.out, HG.out]; rfl), HWN⟩
      case rest =>
      obtain ⟨rfl, hbc⟩ := hcut
      have HBc : Hid (Below w.heap.size w wc) := bt HBr.out hbc
      have HXc := hide (HX.out.on hbc)
      clear hbc y
      cases h7 : pokB U.bk.now U.past[k] with
      | false =>
        have HNo : Hid (worldB U = false) := by unfold Hid; rw [HE1.out, all_no hlt h7]; cases risR rNow U.past <;> rfl
        go_wp2
        go_ret
        exact ⟨ret_bool HNo.out.symm, HBc.out⟩
      | true =>
        cases h9 : risN rNow U.past k with
        | false =>
          have HNo : Hid (worldB U = false) := by
            unfold Hid
            rw [HE1.out, show risR rNow U.past = false from range_not hlt h9]; cases U.past.all (pokB U.bk.now) <;> rfl
          go_wp2
          go_ret
          exact ⟨ret_bool HNo.out.symm, HBc.out⟩
        | true =>
          have HT := hide h7
          have HT9 := hide h9
          go_wp2
          go_roundw
          case rel => exact ⟨k + 1, by go_num, by omega, HBc.out, HXc.out, step_all HAL.out hlt HT.out, fun j hj => by
                        by_cases e : j = k
                        · rw [e]; exact HT9.out
                        · exact HRI.out j (by omega)⟩
          case measure => simp [intOf]; omega
    · have HALL : Hid (U.past.all (pokB U.bk.now) = true) := all_yes (fun i hi => HAL.out i hi (by omega))
      have HRIS : Hid (risR rNow U.past = true) := range_all (fun i hi => HRI.out i (by omega))
      have HE2 : Hid (worldB U = true) := by unfold Hid; rw [HE1.out, HALL.out, HRIS.out]; rfl
      go_wp2
      go_ret
      exact ⟨ret_bool HE2.out.symm, HBr.out⟩
end Go.Proofs.Ythecacabcgaenaa
