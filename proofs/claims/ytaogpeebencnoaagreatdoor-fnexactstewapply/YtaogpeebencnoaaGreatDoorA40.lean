import Derived.Test.YtaogpeebencnoaaGreatDoorA27
import Derived.Test.YtaogpeebencnoaaGreatDoorA39
namespace Go.Proofs.YtaogpeebencnoaaGreatDoor
open Go.RowKit Go.Deep

def cEn (x y : En) : Int := cmpI x.nu y.nu
theorem cEn_neg (x y : En) : decide (cEn x y < 0) = rEn x y := by
  unfold cEn rEn
  rw [decide_eq_decide, cmpI_neg]
theorem cmpEn_any (x y : En) (w : World) :
    Calls Tryz.prog 129 #[.agg #[.int .i64 x.nu, .int .i64 x.sn], .agg #[.int .i64 y.nu, .int .i64 y.sn]] w fun e w' => e = .returned (.int .i64 (cEn x y)) ∧ Below w.heap.size w w' := by
  go_enter Tryz.func129, Tryz.ntmps129
  go_wp2_with (go_at_call 124; refine (cmpInt_any _ _ _).mono ?_; rintro e w' ⟨rfl, rfl⟩)
  go_ret
  exact ⟨rfl, (one_al w _).alloc (by simp) _⟩

set_option maxRecDepth 20000 in
set_option maxHeartbeats 4000000 in
theorem ascEn_any (lo : Nat) (v : Value) (Xl : List En) (w : World) (hv : EnsAt lo w v Xl) :
    Calls Tryz.prog 128 #[v, .func (.func 129) #[] #[]] w fun e w' => e = .returned (.bool (risR rEn Xl)) ∧ Below w.heap.size w w' := by
  have HV := hide hv
  have hm := hv.max
  unfold maxLen at hm
  obtain ⟨a, cap, rfl⟩ := hv.form
  clear hv
  go_enter Tryz.func128, Tryz.ntmps128
  go_wp2
  go_loopw [5] (fun i wr => ∃ m : Nat, i = .int .i64 m ∧ 1 ≤ m ∧ (m ≤ Xl.length ∨ m = 1) ∧ Below w.heap.size w wr ∧ ∀ j, j < m → risN rEn Xl j = true) (fun i _ => Xl.length + 1 - (intOf i).toNat)
  case atStart => exact ⟨1, rfl, Nat.le_refl _, Or.inr rfl, Below.refl _ _, fun j hj => by rw [show j = 0 by omega]; rfl⟩
  case round =>
    obtain ⟨m, rfl, hm1, hk, hb, hall⟩ := hrel
    have HB := hide hb
    have HA := hide hall
    clear hb hall
    by_cases hlt : m < Xl.length
    · obtain ⟨k, hkm⟩ : ∃ k, m = k + 1 := ⟨m - 1, by omega⟩
      have hlt0 : k < Xl.length := by omega
      obtain ⟨b, off, rfl, hbw, -, hc⟩ := HV.out.full' (by omega)
      have hbr : b < wr.heap.size := Nat.lt_of_lt_of_le hbw HB.out.size
      have HC := hide ((hc k hlt0).2.below HB.out hbw)
      have HD := hide ((hc m hlt).2.below HB.out hbw)
      have HS : Hid (risN rEn Xl m = decide (cEn Xl[k] Xl[m] < 0)) := by
        subst hkm
        unfold Hid
        rw [cEn_neg]
        exact risN_at hlt
      have e2 : IntKind.i64.wrap ((m : Int) - 1) = k := by rw [IntWalk.i64_left]; unfold wrap64; omega
      clear hc hkm hk
      go_wp2
      go_cut [23] (fun c wc => c = .bool (decide (0 ≤ cEn Xl[k] Xl[m])) ∧ Below wr.heap.size wr wc)
      case first =>
        have xn : Nonempty (In (Up wr)) := ⟨⟨wr, Below.refl _ _⟩⟩
        have xs := fun (X : In (Up wr)) => in_self X
        have s0 : ∀ X : In (Up wr), _ := fun X => Up.cell X HC.out.c0
        have t0 : ∀ X : In (Up wr), _ := fun X => Up.cell X HD.out.c0
        have s1 : ∀ X : In (Up wr), _ := fun X => Up.cell X HC.out.c1
        have t1 : ∀ X : In (Up wr), _ := fun X => Up.cell X HD.out.c1
        have i0 : (0 : Int) ≤ (k : Int) := by omega
        have i1 : (k : Int) < (Xl.length : Int) := by omega
        have j0 : (0 : Int) ≤ (m : Int) := by omega
        have j1 : (m : Int) < (Xl.length : Int) := by omega
        refine wp_region_class (Up wr) (by kernel_rfl) (by kernel_rfl) ((Below.refl _ _).drew) ?_
        repeat (go_big_quiet_step ((go_at_call 129; rename_i X; exact (cmpEn_any Xl[k] Xl[m] _).mono fun _ _ h => ⟨h.1, Up.next X h.2⟩)))
        refine wpQuiet_nil ?_
        intro wn hw
        obtain ⟨X, hX⟩ := hw
        have HWN : Below wr.heap.size wr wn := by rw [hX]; exact X.h
        clear hX X s0 t0 s1 t1 xs xn
        go_wp2
        go_meet
        exact ⟨rfl, HWN⟩
      case rest =>
      obtain ⟨rfl, hbc⟩ := hcut
      have HBc := hide (bt HB.out hbc)
      clear hbc HC HD
      cases hq : decide (0 ≤ cEn Xl[k] Xl[m]) with
      | true =>
        have HN : Hid (risR rEn Xl = false) := range_not hlt (HS.out.trans (decide_eq_false (by have := of_decide_eq_true hq; omega)))
        go_wp2
        go_ret
        exact ⟨ret_bool HN.out.symm, HBc.out⟩
      | false =>
        have HT : Hid (risN rEn Xl m = true) := HS.out.trans (decide_eq_true (by have := of_decide_eq_false hq; omega))
        go_wp2
        go_roundw
        case rel => exact ⟨m + 1, by go_num, by omega, by omega, HBc.out, fun j hj => by
                      by_cases e : j = m
                      · rw [e]; exact HT.out
                      · exact HA.out j (by omega)⟩
        case measure => simp [intOf]; omega
    · have HT : Hid (risR rEn Xl = true) := range_all (fun i hi => HA.out i (by omega))
      go_wp2
      go_ret
      exact ⟨ret_bool HT.out.symm, HB.out⟩


/-- no error, or one of a code -/
def fltV (b : Bool) (c : Int) : Value := if b then .nilIface else .iface 122 (.agg #[.int .i64 c])
theorem faultUnless_any (b : Bool) (c : Int) (w : World) :
    Calls Tryz.prog 103 #[.bool b, .int .i64 c] w fun e w' => e = .returned (fltV b c) ∧ w' = w := by
  cases b with
  | true =>
    go_enter Tryz.func103, Tryz.ntmps103
    go_wp2
    go_ret
    exact ⟨rfl, rfl⟩
  | false =>
    go_enter Tryz.func103, Tryz.ntmps103
    go_wp2
    go_ret
    exact ⟨rfl, rfl⟩
theorem endsSound_any (lo : Nat) (v : Value) (Xl : List En) (w : World) (hv : EnsAt lo w v Xl) :
    Calls Tryz.prog 100 #[v] w fun e w' => e = .returned (.bool (decide (Xl.length ≤ 200) && risR rEn Xl)) ∧ Below w.heap.size w w' := by
  have HV := hide hv
  obtain ⟨a, cap, rfl⟩ := hv.form
  clear hv
  by_cases h : Xl.length ≤ 200
  · have HE : Hid ((decide (Xl.length ≤ 200) && risR rEn Xl) = risR rEn Xl) := by unfold Hid; rw [decide_eq_true h]; rfl
    have h' : (Xl.length : Int) ≤ 200 := by omega
    go_enter Tryz.func100, Tryz.ntmps100
    go_wp2_with fail
    refine (ascEn_any lo _ Xl _ HV.out).mono ?_
    rintro e w1 ⟨rfl, hb⟩
    go_wp2
    go_ret
    exact ⟨ret_bool HE.out.symm, hb⟩
  · have HE : Hid ((decide (Xl.length ≤ 200) && risR rEn Xl) = false) := by unfold Hid; rw [decide_eq_false h]; rfl
    have h' : ¬ ((Xl.length : Int) ≤ 200) := by omega
    go_enter Tryz.func100, Tryz.ntmps100
    go_wp2
    go_ret
    exact ⟨by first | exact ret_bool HE.out.symm | rfl, Below.refl _ _⟩
theorem scaleSound_any (ev : Value) (A : Ac) (w : World) (h : ∃ a n k, ev = .slice a n k) :
    Calls Tryz.prog 101 #[.agg #[.string A.sv, .int .i64 A.sn, .int .i64 A.cr, .int .i64 A.wa, .int .i64 A.cl, .bool A.sc, ev, .bool A.dp]] w fun e w' => e = .returned (.bool (scB A)) ∧ Below w.heap.size w w' := by
  obtain ⟨a, n, k, rfl⟩ := h
  have HI : Hid (scB A = if A.sc then inB 0 10 A.wa && inB 0 3 A.cl else (A.wa == 0) && (A.cl == 0)) := rfl
  cases h1 : A.sc with
  | false =>
    cases h2 : (A.wa == 0) with
    | false =>
      have HE : Hid (scB A = false) := by unfold Hid; rw [HI.out, h1, h2]; rfl
      go_enter Tryz.func101, Tryz.ntmps101
      go_wp2
      go_ret
      exact ⟨ret_bool HE.out.symm, one_al w _⟩
    | true =>
      have HE : Hid (scB A = (A.cl == 0)) := by unfold Hid; rw [HI.out, h1, h2]; rfl
      go_enter Tryz.func101, Tryz.ntmps101
      go_wp2
      go_ret
      exact ⟨ret_bool HE.out.symm, one_al w _⟩
  | true =>
    cases h2 : inB 0 10 A.wa with
    | false =>
      have HE : Hid (scB A = false) := by unfold Hid; rw [HI.out, h1, h2]; rfl
      go_enter Tryz.func101, Tryz.ntmps101
      go_wp2_with (go_at_call 87; refine (within_any _ _ _ _).mono ?_; rintro e w' ⟨rfl, rfl⟩)
      go_ret
      exact ⟨ret_bool HE.out.symm, one_al w _⟩
    | true =>
      have HE : Hid (scB A = inB 0 3 A.cl) := by unfold Hid; rw [HI.out, h1, h2]; rfl
      go_enter Tryz.func101, Tryz.ntmps101
      go_wp2_with (go_at_call 87; refine (within_any _ _ _ _).mono ?_; rintro e w' ⟨rfl, rfl⟩)
      go_ret
      exact ⟨ret_bool HE.out.symm, one_al w _⟩
theorem dropSound_any (a : Option Addr) (k : Nat) (A : Ac) (w : World) :
    Calls Tryz.prog 102 #[.agg #[.string A.sv, .int .i64 A.sn, .int .i64 A.cr, .int .i64 A.wa, .int .i64 A.cl, .bool A.sc, .slice a A.es.length k, .bool A.dp]] w fun e w' => e = .returned (.bool (dpB A)) ∧ Below w.heap.size w w' := by
  have HI : Hid (dpB A = (!A.dp || ((A.cr == 0) && (!A.sc && decide (A.es.length = 0))))) := rfl
  cases h1 : A.dp with
  | false =>
    have HE : Hid (dpB A = true) := by unfold Hid; rw [HI.out, h1]; rfl
    go_enter Tryz.func102, Tryz.ntmps102
    go_wp2
    go_ret
    exact ⟨ret_bool HE.out.symm, one_al w _⟩
  | true =>
    cases h2 : (A.cr == 0) with
    | false =>
      have HE : Hid (dpB A = false) := by unfold Hid; rw [HI.out, h1, h2]; rfl
      go_enter Tryz.func102, Tryz.ntmps102
      go_wp2
      go_ret
      exact ⟨ret_bool HE.out.symm, one_al w _⟩
    | true =>
      cases h3 : A.sc with
      | true =>
        have HE : Hid (dpB A = false) := by unfold Hid; rw [HI.out, h1, h2, h3]; rfl
        go_enter Tryz.func102, Tryz.ntmps102
        go_wp2
        go_ret
        exact ⟨ret_bool HE.out.symm, one_al w _⟩
      | false =>
        have HE : Hid (dpB A = decide (A.es.length = 0)) := by unfold Hid; rw [HI.out, h1, h2, h3]; rfl
        by_cases h4 : A.es.length = 0
        · have HT : Hid (dpB A = true) := by unfold Hid; rw [HE.out, decide_eq_true h4]
          have h5 : ((A.es.length : Int) == 0) = true := by simp [h4]
          clear h4
          go_enter Tryz.func102, Tryz.ntmps102
          go_wp2
          go_ret
          exact ⟨ret_bool HT.out.symm, one_al w _⟩
        · have HT : Hid (dpB A = false) := by unfold Hid; rw [HE.out, decide_eq_false h4]
          have h5 : ((A.es.length : Int) == 0) = false := by simp [h4]
          clear h4
          go_enter Tryz.func102, Tryz.ntmps102
          go_wp2
          go_ret
          exact ⟨ret_bool HT.out.symm, one_al w _⟩
end Go.Proofs.YtaogpeebencnoaaGreatDoor
