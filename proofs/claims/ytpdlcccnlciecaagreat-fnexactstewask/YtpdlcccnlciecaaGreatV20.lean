import Derived.Test.YtpdlcccnlciecaaGreatV15
namespace Go.Proofs.YtpdlcccnlciecaaGreat
open Go.RowKit Go.Deep

set_option maxRecDepth 20000 in
set_option maxHeartbeats 4000000 in
theorem ascSv_any (lo : Nat) (v : Value) (Xl : List Sv) (w : World) (hv : SvsAt lo w v Xl) :
    Calls Tryz.prog 84 #[v, .func (.func 85) #[] #[]] w fun e w' => e = .returned (.bool (risR rSv Xl)) ∧ Below w.heap.size w w' := by
  have HV := hide hv
  have hm := hv.max
  unfold maxLen at hm
  obtain ⟨a, cap, rfl⟩ := hv.form
  clear hv
  go_enter Tryz.func84, Tryz.ntmps84
  go_wp2
  go_loopw [5] (fun i wr => ∃ m : Nat, i = .int .i64 m ∧ 1 ≤ m ∧ (m ≤ Xl.length ∨ m = 1) ∧ Below w.heap.size w wr ∧ ∀ j, j < m → risN rSv Xl j = true) (fun i _ => Xl.length + 1 - (intOf i).toNat)
  case atStart => exact ⟨1, rfl, Nat.le_refl _, Or.inr rfl, Below.refl _ _, fun j hj => by rw [show j = 0 by omega]; rfl⟩
  case round =>
    obtain ⟨m, rfl, hm1, hk, hb, hall⟩ := hrel
    have HB := hide hb
    have HA := hide hall
    clear hb hall
    by_cases hlt : m < Xl.length
    · obtain ⟨k, hkm⟩ : ∃ k, m = k + 1 := ⟨m - 1, by omega⟩
      have hlt0 : k < Xl.length := by omega
      obtain ⟨b, off, rfl, hbw, -, hc⟩ := HV.out.full' (by omega)
      have hbr : b < wr.heap.size := Nat.lt_of_lt_of_le hbw HB.out.size
      have HC := hide ((hc k hlt0).2.below HB.out hbw)
      have HD := hide ((hc m hlt).2.below HB.out hbw)
      have HS : Hid (risN rSv Xl m = decide (cSv Xl[k] Xl[m] < 0)) := by
        subst hkm
        unfold Hid
        rw [cSv_neg]
        exact risN_at hlt
      have e2 : IntKind.i64.wrap ((m : Int) - 1) = k := by rw [IntWalk.i64_left]; unfold wrap64; omega
      clear hc hkm hk
      go_wp2
      go_cut [23] (fun c wc => c = .bool (decide (0 ≤ cSv Xl[k] Xl[m])) ∧ Below wr.heap.size wr wc)
      case first =>
        have xn : Nonempty (In (Up wr)) := ⟨⟨wr, Below.refl _ _⟩⟩
        have xs := fun (X : In (Up wr)) => in_self X
        have i0 : (0 : Int) ≤ (k : Int) := by omega
        have i1 : (k : Int) < (Xl.length : Int) := by omega
        have j0 : (0 : Int) ≤ (m : Int) := by omega
        have j1 : (m : Int) < (Xl.length : Int) := by omega
        refine wp_region_class (Up wr) (by kernel_rfl) (by kernel_rfl) ((Below.refl _ _).drew) ?_
        repeat (go_big_quiet_step (fail))
        refine wpQuiet_load_mid (by rfl) 50 (.tmp 16) rfl b (off + k * 13) rfl (svL Xl[k]) _ (fun W hW => by obtain ⟨X, rfl⟩ := hW; exact rng_below HC.out.rng X.h hbr) Tryz.underlying50 rfl Sv_sizeI ?_
        simp only [Act.put, List.setIfInBounds_toArray, List.set_cons_zero, List.set_cons_succ]
        repeat (go_big_quiet_step (fail))
        refine wpQuiet_load_mid (by rfl) 50 (.tmp 20) rfl b (off + m * 13) rfl (svL Xl[m]) _ (fun W hW => by obtain ⟨X, rfl⟩ := hW; exact rng_below HD.out.rng X.h hbr) Tryz.underlying50 rfl Sv_sizeI ?_
        simp only [Act.put, List.setIfInBounds_toArray, List.set_cons_zero, List.set_cons_succ]
        repeat (go_big_quiet_step ((go_at_call 85; rename_i X; exact (cmpSv_any Xl[k] Xl[m] _).mono fun _ _ h => ⟨h.1, Up.next X h.2⟩)))
        refine wpQuiet_nil ?_
        intro wn hw
        obtain ⟨X, hX⟩ := hw
        have HWN : Below wr.heap.size wr wn := by rw [hX]; exact X.h
        clear hX X  xs xn
        go_wp2
        go_meet
        exact ⟨rfl, HWN⟩
      case rest =>
      obtain ⟨rfl, hbc⟩ := hcut
      have HBc := hide (bt HB.out hbc)
      clear hbc HC HD
      cases hq : decide (0 ≤ cSv Xl[k] Xl[m]) with
      | true =>
        have HN : Hid (risR rSv Xl = false) := range_not hlt (HS.out.trans (decide_eq_false (by have := of_decide_eq_true hq; omega)))
        go_wp2
        go_ret
        exact ⟨ret_bool HN.out.symm, HBc.out⟩
      | false =>
        have HT : Hid (risN rSv Xl m = true) := HS.out.trans (decide_eq_true (by have := of_decide_eq_false hq; omega))
        go_wp2
        go_roundw
        case rel => exact ⟨m + 1, by go_num, by omega, by omega, HBc.out, fun j hj => by
                      by_cases e : j = m
                      · rw [e]; exact HT.out
                      · exact HA.out j (by omega)⟩
        case measure => simp [intOf]; omega
    · have HT : Hid (risR rSv Xl = true) := range_all (fun i hi => HA.out i (by omega))
      go_wp2
      go_ret
      exact ⟨ret_bool HT.out.symm, HB.out⟩

set_option maxRecDepth 20000 in
set_option maxHeartbeats 4000000 in
theorem ascBe_any (lo : Nat) (v : Value) (Xl : List Be) (w : World) (hv : BesAt lo w v Xl) :
    Calls Tryz.prog 88 #[v, .func (.func 89) #[] #[]] w fun e w' => e = .returned (.bool (risR rBe Xl)) ∧ Below w.heap.size w w' := by
  have HV := hide hv
  have hm := hv.max
  unfold maxLen at hm
  obtain ⟨a, cap, rfl⟩ := hv.form
  clear hv
  go_enter Tryz.func88, Tryz.ntmps88
  go_wp2
  go_loopw [5] (fun i wr => ∃ m : Nat, i = .int .i64 m ∧ 1 ≤ m ∧ (m ≤ Xl.length ∨ m = 1) ∧ Below w.heap.size w wr ∧ ∀ j, j < m → risN rBe Xl j = true) (fun i _ => Xl.length + 1 - (intOf i).toNat)
  case atStart => exact ⟨1, rfl, Nat.le_refl _, Or.inr rfl, Below.refl _ _, fun j hj => by rw [show j = 0 by omega]; rfl⟩
  case round =>
    obtain ⟨m, rfl, hm1, hk, hb, hall⟩ := hrel
    have HB := hide hb
    have HA := hide hall
    clear hb hall
    by_cases hlt : m < Xl.length
    · obtain ⟨k, hkm⟩ : ∃ k, m = k + 1 := ⟨m - 1, by omega⟩
      have hlt0 : k < Xl.length := by omega
      obtain ⟨b, off, rfl, hbw, -, hc⟩ := HV.out.full' (by omega)
      have hbr : b < wr.heap.size := Nat.lt_of_lt_of_le hbw HB.out.size
      have HC := hide ((hc k hlt0).2.below HB.out hbw)
      have HD := hide ((hc m hlt).2.below HB.out hbw)
      have HS : Hid (risN rBe Xl m = decide (cBe Xl[k] Xl[m] < 0)) := by
        subst hkm
        unfold Hid
        rw [cBe_neg]
        exact risN_at hlt
      have e2 : IntKind.i64.wrap ((m : Int) - 1) = k := by rw [IntWalk.i64_left]; unfold wrap64; omega
      clear hc hkm hk
      go_wp2
      go_cut [23] (fun c wc => c = .bool (decide (0 ≤ cBe Xl[k] Xl[m])) ∧ Below wr.heap.size wr wc)
      case first =>
        have xn : Nonempty (In (Up wr)) := ⟨⟨wr, Below.refl _ _⟩⟩
        have xs := fun (X : In (Up wr)) => in_self X
        have s0 : ∀ X : In (Up wr), _ := fun X => Up.cell X HC.out.c0
        have t0 : ∀ X : In (Up wr), _ := fun X => Up.cell X HD.out.c0
        have s1 : ∀ X : In (Up wr), _ := fun X => Up.cell X HC.out.c1
        have t1 : ∀ X : In (Up wr), _ := fun X => Up.cell X HD.out.c1
        have i0 : (0 : Int) ≤ (k : Int) := by omega
        have i1 : (k : Int) < (Xl.length : Int) := by omega
        have j0 : (0 : Int) ≤ (m : Int) := by omega
        have j1 : (m : Int) < (Xl.length : Int) := by omega
        refine wp_region_class (Up wr) (by kernel_rfl) (by kernel_rfl) ((Below.refl _ _).drew) ?_
        repeat (go_big_quiet_step ((go_at_call 89; rename_i X; exact (cmpBe_any Xl[k] Xl[m] _).mono fun _ _ h => ⟨h.1, Up.next X h.2⟩)))
        refine wpQuiet_nil ?_
        intro wn hw
        obtain ⟨X, hX⟩ := hw
        have HWN : Below wr.heap.size wr wn := by rw [hX]; exact X.h
        clear hX X s0 t0 s1 t1 xs xn
        go_wp2
        go_meet
        exact ⟨rfl, HWN⟩
      case rest =>
      obtain ⟨rfl, hbc⟩ := hcut
      have HBc := hide (bt HB.out hbc)
      clear hbc HC HD
      cases hq : decide (0 ≤ cBe Xl[k] Xl[m]) with
      | true =>
        have HN : Hid (risR rBe Xl = false) := range_not hlt (HS.out.trans (decide_eq_false (by have := of_decide_eq_true hq; omega)))
        go_wp2
        go_ret
        exact ⟨ret_bool HN.out.symm, HBc.out⟩
      | false =>
        have HT : Hid (risN rBe Xl m = true) := HS.out.trans (decide_eq_true (by have := of_decide_eq_false hq; omega))
        go_wp2
        go_roundw
        case rel => exact ⟨m + 1, by go_num, by omega, by omega, HBc.out, fun j hj => by
                      by_cases e : j = m
                      · rw [e]; exact HT.out
                      · exact HA.out j (by omega)⟩
        case measure => simp [intOf]; omega
    · have HT : Hid (risR rBe Xl = true) := range_all (fun i hi => HA.out i (by omega))
      go_wp2
      go_ret
      exact ⟨ret_bool HT.out.symm, HB.out⟩

set_option maxRecDepth 20000 in
set_option maxHeartbeats 4000000 in
theorem ascCp_any (lo : Nat) (v : Value) (Xl : List Cp) (w : World) (hv : CpsAt lo w v Xl) :
    Calls Tryz.prog 92 #[v, .func (.func 93) #[] #[]] w fun e w' => e = .returned (.bool (risR aheadB Xl)) ∧ Below w.heap.size w w' := by
  have HV := hide hv
  have hm := hv.max
  unfold maxLen at hm
  obtain ⟨a, cap, rfl⟩ := hv.form
  clear hv
  go_enter Tryz.func92, Tryz.ntmps92
  go_wp2
  go_loopw [5] (fun i wr => ∃ m : Nat, i = .int .i64 m ∧ 1 ≤ m ∧ (m ≤ Xl.length ∨ m = 1) ∧ Below w.heap.size w wr ∧ ∀ j, j < m → risN aheadB Xl j = true) (fun i _ => Xl.length + 1 - (intOf i).toNat)
  case atStart => exact ⟨1, rfl, Nat.le_refl _, Or.inr rfl, Below.refl _ _, fun j hj => by rw [show j = 0 by omega]; rfl⟩
  case round =>
    obtain ⟨m, rfl, hm1, hk, hb, hall⟩ := hrel
    have HB := hide hb
    have HA := hide hall
    clear hb hall
    by_cases hlt : m < Xl.length
    · obtain ⟨k, hkm⟩ : ∃ k, m = k + 1 := ⟨m - 1, by omega⟩
      have hlt0 : k < Xl.length := by omega
      obtain ⟨b, off, rfl, hbw, -, hc⟩ := HV.out.full' (by omega)
      have hbr : b < wr.heap.size := Nat.lt_of_lt_of_le hbw HB.out.size
      have HC := hide ((hc k hlt0).2.below HB.out hbw)
      have HD := hide ((hc m hlt).2.below HB.out hbw)
      have HS : Hid (risN aheadB Xl m = decide (cCp Xl[k] Xl[m] < 0)) := by
        subst hkm
        unfold Hid
        rw [cCp_neg]
        exact risN_at hlt
      have e2 : IntKind.i64.wrap ((m : Int) - 1) = k := by rw [IntWalk.i64_left]; unfold wrap64; omega
      clear hc hkm hk
      go_wp2
      go_cut [23] (fun c wc => c = .bool (decide (0 ≤ cCp Xl[k] Xl[m])) ∧ Below wr.heap.size wr wc)
      case first =>
        have xn : Nonempty (In (Up wr)) := ⟨⟨wr, Below.refl _ _⟩⟩
        have xs := fun (X : In (Up wr)) => in_self X
        have s0 : ∀ X : In (Up wr), _ := fun X => Up.cell X HC.out.c0
        have t0 : ∀ X : In (Up wr), _ := fun X => Up.cell X HD.out.c0
        have s1 : ∀ X : In (Up wr), _ := fun X => Up.cell X HC.out.c1
        have t1 : ∀ X : In (Up wr), _ := fun X => Up.cell X HD.out.c1
        have s2 : ∀ X : In (Up wr), _ := fun X => Up.cell X HC.out.c2
        have t2 : ∀ X : In (Up wr), _ := fun X => Up.cell X HD.out.c2
        have s3 : ∀ X : In (Up wr), _ := fun X => Up.cell X HC.out.c3
        have t3 : ∀ X : In (Up wr), _ := fun X => Up.cell X HD.out.c3
        have s4 : ∀ X : In (Up wr), _ := fun X => Up.cell X HC.out.c4
        have t4 : ∀ X : In (Up wr), _ := fun X => Up.cell X HD.out.c4
        have s5 : ∀ X : In (Up wr), _ := fun X => Up.cell X HC.out.c5
        have t5 : ∀ X : In (Up wr), _ := fun X => Up.cell X HD.out.c5
        have s6 : ∀ X : In (Up wr), _ := fun X => Up.cell X HC.out.c6
        have t6 : ∀ X : In (Up wr), _ := fun X => Up.cell X HD.out.c6
        have i0 : (0 : Int) ≤ (k : Int) := by omega
        have i1 : (k : Int) < (Xl.length : Int) := by omega
        have j0 : (0 : Int) ≤ (m : Int) := by omega
        have j1 : (m : Int) < (Xl.length : Int) := by omega
        refine wp_region_class (Up wr) (by kernel_rfl) (by kernel_rfl) ((Below.refl _ _).drew) ?_
        repeat (go_big_quiet_step ((go_at_call 93; rename_i X; exact (cmpCp_any Xl[k] Xl[m] _).mono fun _ _ h => ⟨h.1, Up.next X h.2⟩)))
        refine wpQuiet_nil ?_
        intro wn hw
        obtain ⟨X, hX⟩ := hw
        have HWN : Below wr.heap.size wr wn := by rw [hX]; exact X.h
        clear hX X s0 t0 s1 t1 s2 t2 s3 t3 s4 t4 s5 t5 s6 t6 xs xn
        go_wp2
        go_meet
        exact ⟨rfl, HWN⟩
      case rest =>
      obtain ⟨rfl, hbc⟩ := hcut
      have HBc := hide (bt HB.out hbc)
      clear hbc HC HD
      cases hq : decide (0 ≤ cCp Xl[k] Xl[m]) with
      | true =>
        have HN : Hid (risR aheadB Xl = false) := range_not hlt (HS.out.trans (decide_eq_false (by have := of_decide_eq_true hq; omega)))
        go_wp2
        go_ret
        exact ⟨ret_bool HN.out.symm, HBc.out⟩
      | false =>
        have HT : Hid (risN aheadB Xl m = true) := HS.out.trans (decide_eq_true (by have := of_decide_eq_false hq; omega))
        go_wp2
        go_roundw
        case rel => exact ⟨m + 1, by go_num, by omega, by omega, HBc.out, fun j hj => by
                      by_cases e : j = m
                      · rw [e]; exact HT.out
                      · exact HA.out j (by omega)⟩
        case measure => simp [intOf]; omega
    · have HT : Hid (risR aheadB Xl = true) := range_all (fun i hi => HA.out i (by omega))
      go_wp2
      go_ret
      exact ⟨ret_bool HT.out.symm, HB.out⟩

end Go.Proofs.YtpdlcccnlciecaaGreat
