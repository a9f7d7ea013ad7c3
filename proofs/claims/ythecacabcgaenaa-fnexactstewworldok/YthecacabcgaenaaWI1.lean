
import Derived.Test.YthecacabcgaenaaWS1
import Derived.Test.YthecacabcgaenaaIV
import Derived.Test.YthecacabcgaenaaIB1
namespace Go.Proofs.Ythecacabcgaenaa
open Go.RowKit Go.Deep

/-! the checks of a row of books -/
theorem cmpNow_any (n n' : Int) (sv cv bv sv' cv' bv' : Value) (w : World) :
    Calls Try.prog 17 #[.agg #[.int .i64 n, sv, cv, bv], .agg #[.int .i64 n', sv', cv', bv']] w fun e w' => e = .returned (.int .i64 (cmpI n n')) ∧ Below w.heap.size w w' := by
  go_enter Try.func17, Try.ntmps17
  go_wp2_with (go_at_call 35; refine (cmpInt_any _ _ _).mono ?_; rintro e w' ⟨rfl, rfl⟩)
  go_ret
  exact ⟨rfl, (one_al w _).alloc (by simp) _⟩
theorem isWrong_any (lo : Nat) (sv cv bv : Value) (B : Sb) (w : World) (h : SbAt lo w sv cv bv B) :
    Calls Try.prog 19 #[.agg #[.int .i64 B.now, sv, cv, bv]] w fun e w' => e = .returned (.bool (!validB B)) ∧ Below w.heap.size w w' := by
  have HL := hide h
  clear h
  go_enter Try.func19, Try.ntmps19
  go_wp2_with (go_at_call 14; refine (implValid_any lo _ _ _ B _ (HL.out.below (one_al w _))).mono ?_; rintro e w' ⟨rfl, hb⟩)
  go_ret
  exact ⟨rfl, bt (one_al w _) hb⟩

set_option maxRecDepth 20000 in
set_option maxHeartbeats 4000000 in
theorem idxWrong_any (lo : Nat) (v : Value) (Xl : List Sb) (w : World) (hv : SbsAt lo w v Xl) :
    Calls Try.prog 36 #[v, .func (.func 19) #[] #[]] w fun e w' => ∃ r : Int, e = .returned (.int .i64 r) ∧ decide (0 ≤ r) = !(Xl.all validB) ∧ Below w.heap.size w w' := by
  have HV := hide hv
  have hm := hv.max
  unfold maxLen at hm
  obtain ⟨a, cap, rfl⟩ := hv.form
  clear hv
  go_enter Try.func36, Try.ntmps36
  go_wp2
  go_loopw [8] (fun i wr => ∃ k : Nat, i = .int .i64 k ∧ k ≤ Xl.length ∧ Below w.heap.size w wr ∧ ∀ j (hj : j < Xl.length), j < k → validB Xl[j] = true) (fun i _ => Xl.length - (intOf i).toNat)
  case atStart => exact ⟨0, rfl, by omega, Below.refl _ _, fun j _ h => by omega⟩
  case round =>
    obtain ⟨k, rfl, hk, hb, hall⟩ := hrel
    have HB := hide hb
    have HA := hide hall
    clear hb hall
    by_cases hlt : k < Xl.length
    · obtain ⟨b, off, rfl, hbw, -, hc⟩ := HV.out.full' (by omega)
      obtain ⟨_, hr, c0, m0, c1, m1, c2, m2, rfl, hAt⟩ := hc k hlt
      have HR : Hid (wr.rangeAt b (off + k * 4) [.int .i64 Xl[k].now, .slice c0 Xl[k].ss.length m0, .slice c1 Xl[k].cs.length m1, .slice c2 Xl[k].bs.length m2]) := rng_below hr HB.out hbw
      have HBK := hide (hAt.below HB.out)
      have i0 : (0 : Int) ≤ (k : Int) := by omega
      have i1 : (k : Int) < (Xl.length : Int) := by omega
      clear hc hr hAt
      cases h7 : validB Xl[k] with
      | false =>
        have HN : Hid (Xl.all validB = false) := all_no hlt h7
        go_wp2_with (first
          | (refine wpList_load_mid rfl 37 (.tmp 14) rfl b (off + k * 4) rfl _ _ HR.out Try.underlying37 rfl Sb_sizeI ?_)
          | (go_at_call 19; refine (isWrong_any lo _ _ _ Xl[k] _ HBK.out).mono ?_; rintro e wz ⟨rfl, hbz⟩))
        go_ret
        exact ⟨_, rfl, by rw [HN.out]; exact decide_eq_true (by omega), bt HB.out hbz⟩
      | true =>
        have HT := hide h7
        go_wp2_with (first
          | (refine wpList_load_mid rfl 37 (.tmp 14) rfl b (off + k * 4) rfl _ _ HR.out Try.underlying37 rfl Sb_sizeI ?_)
          | (go_at_call 19; refine (isWrong_any lo _ _ _ Xl[k] _ HBK.out).mono ?_; rintro e wz ⟨rfl, hbz⟩))
        have HBz := hide (bt HB.out hbz)
        go_roundw
        case rel => exact ⟨k + 1, by go_num, by omega, HBz.out, step_all HA.out hlt HT.out⟩
        case measure => simp [intOf]; omega
    · have HT : Hid (Xl.all validB = true) := all_yes (fun i hi => HA.out i hi (by omega))
      go_wp2
      go_ret
      exact ⟨_, rfl, by rw [HT.out]; rfl, HB.out⟩
theorem anyWrong_any (lo : Nat) (v : Value) (Xl : List Sb) (w : World) (hv : SbsAt lo w v Xl) :
    Calls Try.prog 18 #[v, .func (.func 19) #[] #[]] w fun e w' => e = .returned (.bool (!(Xl.all validB))) ∧ Below w.heap.size w w' := by
  have HV := hide hv
  clear hv
  go_enter Try.func18, Try.ntmps18
  go_wp2_with (go_at_call 36; refine (idxWrong_any lo _ Xl _ HV.out).mono ?_; rintro e w' ⟨r, rfl, hr, hb⟩)
  go_ret
  exact ⟨rfl, hb⟩

set_option maxRecDepth 20000 in
set_option maxHeartbeats 4000000 in
theorem sorted_any (lo : Nat) (v : Value) (Xl : List Sb) (w : World) (hv : SbsAt lo w v Xl) :
    Calls Try.prog 16 #[v, .func (.func 17) #[] #[]] w fun e w' => e = .returned (.bool (risR rNow Xl)) ∧ Below w.heap.size w w' := by
  have HV := hide hv
  have hm := hv.max
  unfold maxLen at hm
  obtain ⟨a, cap, rfl⟩ := hv.form
  clear hv
  have e0 : IntKind.i64.wrap ((Xl.length : Int) - 1) = (Xl.length : Int) - 1 := by rw [IntWalk.i64_left]; unfold wrap64; omega
  go_enter Try.func16, Try.ntmps16
  go_wp2
  clear e0
  go_loopw [5] (fun i wr => ∃ m : Int, i = .int .i64 m ∧ -1 ≤ m ∧ m < Xl.length ∧ Below w.heap.size w wr ∧ ∀ j : Nat, m < j → j < Xl.length → risN rNow Xl j = true) (fun i _ => (intOf i + 1).toNat)
  case atStart => exact ⟨_, rfl, by omega, by omega, Below.refl _ _, fun j h1 h2 => by omega⟩
  case round =>
    obtain ⟨m, rfl, hm1, hk, hb, hall⟩ := hrel
    have HB := hide hb
    have HA := hide hall
    clear hb hall
    by_cases hlt : 0 < m
    · obtain ⟨k, rfl⟩ : ∃ k : Nat, m = ((k + 1 : Nat) : Int) := ⟨(m - 1).toNat, by omega⟩
      have hk1 : k + 1 < Xl.length := by omega
      have hk0 : k < Xl.length := by omega
      obtain ⟨b, off, rfl, hbw, -, hc⟩ := HV.out.full' (by omega)
      have hbr : b < wr.heap.size := Nat.lt_of_lt_of_le hbw HB.out.size
      obtain ⟨_, hr, c0, m0, c1, m1, c2, m2, rfl, hAt⟩ := hc (k + 1) hk1
      obtain ⟨_, hs, d0, n0, d1, n1, d2, n2, rfl, hAs⟩ := hc k hk0
      have HR : Hid (wr.rangeAt b (off + (k + 1) * 4) [.int .i64 Xl[k + 1].now, .slice c0 Xl[k + 1].ss.length m0, .slice c1 Xl[k + 1].cs.length m1, .slice c2 Xl[k + 1].bs.length m2]) := rng_below hr HB.out hbw
      have HS : Hid (wr.rangeAt b (off + k * 4) [.int .i64 Xl[k].now, .slice d0 Xl[k].ss.length n0, .slice d1 Xl[k].cs.length n1, .slice d2 Xl[k].bs.length n2]) := rng_below hs HB.out hbw
      have HRK : Hid (risN rNow Xl (k + 1) = rNow Xl[k] Xl[k + 1]) := risN_at hk1
      generalize hq : k + 1 = q at *
      have e2 : IntKind.i64.wrap ((q : Int) - 1) = k := by rw [IntWalk.i64_left]; unfold wrap64; omega
      clear hc hr hAt hs hAs
      go_wp2
      go_cut [24] (fun c wc => c = .bool (decide (cmpI Xl[q].now Xl[k].now < 0)) ∧ Below wr.heap.size wr wc)
      case first =>
        have xn : Nonempty (In (Up wr)) := ⟨⟨wr, Below.refl _ _⟩⟩
        have xs := fun (X : In (Up wr)) => in_self X
        have i0 : (0 : Int) ≤ (k : Int) := by omega
        have i1 : (k : Int) < (Xl.length : Int) := by omega
        have j0 : (0 : Int) ≤ (q : Int) := by omega
        have j1 : (q : Int) < (Xl.length : Int) := by omega
        refine wp_region_class (Up wr) (by kernel_rfl) (by kernel_rfl) ((Below.refl _ _).drew) ?_
        repeat (go_big_quiet_step (fail))
        refine wpQuiet_load_mid (by rfl) 37 (.tmp 16) rfl b (off + q * 4) rfl [.int .i64 Xl[q].now, .slice c0 Xl[q].ss.length m0, .slice c1 Xl[q].cs.length m1, .slice c2 Xl[q].bs.length m2] _ (fun W hW => by obtain ⟨X, rfl⟩ := hW; exact rng_below HR.out X.h hbr) Try.underlying37 rfl Sb_sizeI ?_
        simp only [Act.put, List.setIfInBounds_toArray, List.set_cons_zero, List.set_cons_succ]
        repeat (go_big_quiet_step (fail))
        refine wpQuiet_load_mid (by rfl) 37 (.tmp 21) rfl b (off + k * 4) rfl [.int .i64 Xl[k].now, .slice d0 Xl[k].ss.length n0, .slice d1 Xl[k].cs.length n1, .slice d2 Xl[k].bs.length n2] _ (fun W hW => by obtain ⟨X, rfl⟩ := hW; exact rng_below HS.out X.h hbr) Try.underlying37 rfl Sb_sizeI ?_
        simp only [Act.put, List.setIfInBounds_toArray, List.set_cons_zero, List.set_cons_succ]
        repeat (go_big_quiet_step ((go_at_call 17; rename_i X; exact (cmpNow_any _ _ _ _ _ _ _ _ _).mono fun _ _ h => ⟨h.1, Up.next X h.2⟩)))
        refine wpQuiet_nil ?_
        intro wn hw
        obtain ⟨X, hX⟩ := hw
        have HWN : Below wr.heap.size wr wn := by rw [hX]; exact X.h
        clear hX X xs xn
        go_wp2
        go_meet
        exact ⟨rfl, HWN⟩
      case rest =>
      obtain ⟨rfl, hbc⟩ := hcut
      have HBc := hide (bt HB.out hbc)
      clear hbc HR HS
      cases hd : decide (cmpI Xl[q].now Xl[k].now < 0) with
      | true =>
        have HN : Hid (risR rNow Xl = false) := range_not hk1 (HRK.out.trans (decide_eq_false (by have := cmpI_neg.1 (of_decide_eq_true hd); omega)))
        go_wp2
        go_ret
        exact ⟨ret_bool HN.out.symm, HBc.out⟩
      | false =>
        have HT : Hid (risN rNow Xl q = true) := HRK.out.trans (decide_eq_true (Int.not_lt.1 fun h => of_decide_eq_false hd (cmpI_neg.2 h)))
        go_wp2
        go_roundw
        case rel => exact ⟨(k : Int), by go_num, by omega, by omega, HBc.out, fun j h1 h2 => by
                      by_cases e : j = q
                      · rw [e]; exact HT.out
                      · exact HA.out j (by omega) h2⟩
        case measure => simp [intOf]; omega
    · have HT : Hid (risR rNow Xl = true) := range_all (fun i hi => by
          by_cases e : i = 0
          · rw [e]; rfl
          · exact HA.out i (by omega) hi)
      have e3 : decide (0 < m) = false := by simp; omega
      go_wp2
      go_ret
      exact ⟨ret_bool HT.out.symm, HB.out⟩
end Go.Proofs.Ythecacabcgaenaa
