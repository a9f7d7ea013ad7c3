import Derived.Test.YtoklnkojacdciaaG24
import Derived.Test.YtoklnkojacdciaaG37
import Derived.Deep.MidRow
import Derived.BigQuiet
namespace Go.Proofs.Ytoklnkojacdciaa
open Go.RowKit Go.Deep

def rRx (x y : Rx) : Bool := decide (x.ix < y.ix)
def cRx (x y : Rx) : Int := cmpI x.ix y.ix
theorem cRx_neg (x y : Rx) : decide (cRx x y < 0) = rRx x y := by
  unfold cRx rRx
  rw [Bool.eq_iff_iff, decide_eq_true_iff, decide_eq_true_iff]
  exact cmpI_neg
set_option maxHeartbeats 1000000 in
theorem cmpRx_any (x y : Rx) (w : World) :
    Calls Try.prog 79 #[.agg #[.int .i64 x.ix, .string x.tx], .agg #[.int .i64 y.ix, .string y.tx]] w fun e w' => e = .returned (.int .i64 (cRx x y)) ∧ Below w.heap.size w w' := by
  have HO : ∀ o o', Hid (Below w.heap.size w ((w.alloc o).alloc o')) := fun o o' => (one_al w o).alloc (by simp) o'
  go_enter Try.func79, Try.ntmps79
  go_wp2_with (go_at_call 106; refine (cmpInt_any _ _ _).mono ?_; rintro e w' ⟨rfl, rfl⟩)
  go_ret
  exact ⟨rfl, (HO _ _).out⟩

set_option maxRecDepth 20000 in
set_option maxHeartbeats 4000000 in
theorem ascRx_any (lo : Nat) (v : Value) (Xl : List Rx) (w : World) (hv : RxsAt lo w v Xl) :
    Calls Try.prog 78 #[v, .func (.func 79) #[] #[]] w fun e w' => e = .returned (.bool (risR rRx Xl)) ∧ Below w.heap.size w w' := by
  have HV := hide hv
  have hm := hv.max
  unfold maxLen at hm
  obtain ⟨a, cap, rfl⟩ := hv.form
  clear hv
  go_enter Try.func78, Try.ntmps78
  go_wp2
  go_loopw [5] (fun i wr => ∃ m : Nat, i = .int .i64 m ∧ 1 ≤ m ∧ (m ≤ Xl.length ∨ m = 1) ∧ Below w.heap.size w wr ∧ ∀ j, j < m → risN rRx Xl j = true) (fun i _ => Xl.length + 1 - (intOf i).toNat)
  case atStart => exact ⟨1, rfl, Nat.le_refl _, Or.inr rfl, Below.refl _ _, fun j hj => by rw [show j = 0 by omega]; rfl⟩
  case round =>
    obtain ⟨m, rfl, hm1, hk, hb, hall⟩ := hrel
    have HB := hide hb
    have HA := hide hall
    clear hb hall
    by_cases hlt : m < Xl.length
    · obtain ⟨k, hkm⟩ : ∃ k, m = k + 1 := ⟨m - 1, by omega⟩
      have hlt0 : k < Xl.length := by omega
      obtain ⟨b, off, rfl, hbw, -, hc⟩ := HV.out.full' (by omega)
      have hbr : b < wr.heap.size := Nat.lt_of_lt_of_le hbw HB.out.size
      have HS : Hid (risN rRx Xl m = decide (cRx Xl[k] Xl[m] < 0)) := by
        subst hkm
        unfold Hid
        rw [cRx_neg]
        exact risN_at hlt
      obtain ⟨hs1, hr1⟩ := hc k hlt0
      obtain ⟨hs2, hr2⟩ := hc m hlt
      obtain ⟨x, hx⟩ : ∃ x, x = Xl[k] := ⟨_, rfl⟩
      obtain ⟨y, hy⟩ : ∃ y, y = Xl[m] := ⟨_, rfl⟩
      rw [← hx] at hr1 HS
      rw [← hy] at hr2 HS
      have HC0 : Hid (wr.cell? ⟨b, off + k * 2, none⟩ = some (.int .i64 x.ix)) := (hr1.below HB.out hbw).c0
      have HC1 : Hid (wr.cell? ⟨b, off + k * 2 + 1, none⟩ = some (.string x.tx)) := (hr1.below HB.out hbw).c1
      have HD0 : Hid (wr.cell? ⟨b, off + m * 2, none⟩ = some (.int .i64 y.ix)) := (hr2.below HB.out hbw).c0
      have HD1 : Hid (wr.cell? ⟨b, off + m * 2 + 1, none⟩ = some (.string y.tx)) := (hr2.below HB.out hbw).c1
      have e2 : IntKind.i64.wrap ((m : Int) - 1) = k := by rw [IntWalk.i64_left]; unfold wrap64; omega
      clear hc hkm hk hr1 hr2 hs1 hs2 hx hy
      go_wp2
      go_cut [23] (fun c wc => c = .bool (decide (0 ≤ cRx x y)) ∧ Below wr.heap.size wr wc)
      case first =>
        have xn : Nonempty (In (Up wr)) := ⟨⟨wr, Below.refl _ _⟩⟩
        have xs := fun (X : In (Up wr)) => in_self X
        have s0 : ∀ X : In (Up wr), _ := fun X => Up.cell X HC0.out
        have s1 : ∀ X : In (Up wr), _ := fun X => Up.cell X HC1.out
        have t0 : ∀ X : In (Up wr), _ := fun X => Up.cell X HD0.out
        have t1 : ∀ X : In (Up wr), _ := fun X => Up.cell X HD1.out
        have i0 : (0 : Int) ≤ (k : Int) := by omega
        have i1 : (k : Int) < (Xl.length : Int) := by omega
        have j0 : (0 : Int) ≤ (m : Int) := by omega
        have j1 : (m : Int) < (Xl.length : Int) := by omega
        refine wp_region_class (Up wr) (by kernel_rfl) (by kernel_rfl) ((Below.refl _ _).drew) ?_
        repeat (go_big_quiet_step ((go_at_call 79; rename_i X; exact (cmpRx_any x y _).mono fun _ _ h => ⟨h.1, Up.next X h.2⟩)))
        refine wpQuiet_nil ?_
        intro wn hw
        obtain ⟨X, hX⟩ := hw
        have HWN : Below wr.heap.size wr wn := by rw [hX]; exact X.h
        clear hX X s0 s1 t0 t1 xs xn
        go_wp2
        go_meet
        exact ⟨rfl, HWN⟩
      case rest =>
      obtain ⟨rfl, hbc⟩ := hcut
      have HBc := hide (bt HB.out hbc)
      clear hbc
      cases hq : decide (0 ≤ cRx x y) with
      | true =>
        have HN : Hid (risR rRx Xl = false) := range_not hlt (HS.out.trans (decide_eq_false (by have := of_decide_eq_true hq; omega)))
        go_wp2
        go_ret
        exact ⟨ret_bool HN.out.symm, HBc.out⟩
      | false =>
        have HT : Hid (risN rRx Xl m = true) := HS.out.trans (decide_eq_true (by have := of_decide_eq_false hq; omega))
        go_wp2
        go_roundw
        case rel => exact ⟨m + 1, by go_num, by omega, by omega, HBc.out, fun j hj => by
                      by_cases e : j = m
                      · rw [e]; exact HT.out
                      · exact HA.out j (by omega)⟩
        case measure => simp [intOf]; omega
    · have HT : Hid (risR rRx Xl = true) := range_all (fun i hi => HA.out i (by omega))
      go_wp2
      go_ret
      exact ⟨ret_bool HT.out.symm, HB.out⟩


def xbB (F : List Rx) (i : Nat) : Bool := inB 1 120 (fixA F i).ix && decide ((fixA F i).tx.size ≤ 160)
theorem xok_two (F : List Rx) (i : Nat) (h : i < F.length) : xokB F i = (xbB F i && risN rRx F i) := by
  unfold xokB xbB
  rw [Bool.and_assoc]
  congr 2
  cases i with
  | zero => rfl
  | succ j =>
    rw [risN_at h]
    unfold rRx
    rw [fixA_at h, show j + 1 - 1 = j from rfl, fixA_at (show j < F.length by omega), Bool.eq_iff_iff]
    simp
theorem fix_two (F : List Rx) : fixB F = ((List.range F.length).all (xbB F) && risR rRx F) := all_and (xok_two F)

set_option maxRecDepth 20000 in
set_option maxHeartbeats 8000000 in
theorem fixedI_any (lo : Nat) (v : Value) (F : List Rx) (w : World) (hv : RxsAt lo w v F) :
    Calls Try.prog 43 #[v] w fun e w' => e = .returned (.bool (fixB F)) ∧ Below w.heap.size w w' := by
  have HV := hide hv
  have hm := hv.max
  unfold maxLen at hm
  obtain ⟨a, cap, rfl⟩ := hv.form
  clear hv
  have HE1 := hide (fix_two F)
  go_enter Try.func43, Try.ntmps43
  go_wp2
  go_loopw [7] (fun i wr => ∃ k : Nat, i = .int .i64 k ∧ k ≤ F.length ∧ Below w.heap.size w wr ∧ ∀ j, j < k → xbB F j = true) (fun i _ => F.length - (intOf i).toNat)
  case atStart => exact ⟨0, rfl, by omega, Below.refl _ _, fun j h => by omega⟩
  case round =>
    obtain ⟨k, rfl, hk, hb, hall⟩ := hrel
    have HAL := hide hall
    have HBr := hide hb
    clear hall hb
    by_cases hlt : k < F.length
    · obtain ⟨b, off, rfl, hbw, -, hc⟩ := HV.out.full' (by omega)
      obtain ⟨x, hx⟩ : ∃ x, x = fixA F k := ⟨_, rfl⟩
      have HDK : Hid (xbB F k = (inB 1 120 x.ix && decide (x.tx.size ≤ 160))) := by unfold Hid xbB; rw [← hx]
      have hcz := hc k hlt
      rw [← fixA_at hlt, ← hx] at hcz
      have hsz : x.tx.size ≤ maxLen := hcz.1.s0
      unfold maxLen at hsz
      have s0 : wr.cell? ⟨b, off + k * 2, none⟩ = some (.int .i64 x.ix) := (hcz.2.below HBr.out hbw).c0
      have s1 : wr.cell? ⟨b, off + k * 2 + 1, none⟩ = some (.string x.tx) := (hcz.2.below HBr.out hbw).c1
      have i0 : (0 : Int) ≤ (k : Int) := by omega
      have i1 : (k : Int) < (F.length : Int) := by omega
      clear hc hx hcz
      cases q1 : inB 1 120 x.ix with
      | false =>
        have HNo : Hid (fixB F = false) := by unfold Hid; rw [HE1.out, range_not hlt (by rw [HDK.out, q1]; rfl)]; rfl
        go_wp2_with (go_at_call 22; refine (within_any _ _ _ _).mono ?_; rw [q1]; rintro e w' ⟨rfl, rfl⟩)
        go_ret
        exact ⟨ret_bool HNo.out.symm, bt HBr.out (one_al _ _)⟩
      | true =>
        cases q2 : decide (x.tx.size ≤ 160) with
        | false =>
          have d2 : (160 : Int) < (x.tx.size : Int) := by have := of_decide_eq_false q2; omega
          have HNo : Hid (fixB F = false) := by unfold Hid; rw [HE1.out, range_not hlt (by rw [HDK.out, q1, q2]; rfl)]; rfl
          go_wp2_with (go_at_call 22; refine (within_any _ _ _ _).mono ?_; rw [q1]; rintro e w' ⟨rfl, rfl⟩)
          go_ret
          exact ⟨ret_bool HNo.out.symm, bt HBr.out (one_al _ _)⟩
        | true =>
          have d2 : ¬ (160 : Int) < (x.tx.size : Int) := by have := of_decide_eq_true q2; omega
          have HT : Hid (xbB F k = true) := by unfold Hid; rw [HDK.out, q1, q2]; rfl
          go_wp2_with (go_at_call 22; refine (within_any _ _ _ _).mono ?_; rw [q1]; rintro e w' ⟨rfl, rfl⟩)
          go_roundw
          case rel => exact ⟨k + 1, by go_num, by omega, bt HBr.out (one_al _ _), fun j hj => by
                        by_cases e : j = k
                        · rw [e]; exact HT.out
                        · exact HAL.out j (by omega)⟩
          case measure => simp [intOf]; omega
    · have HT : Hid (fixB F = risR rRx F) := by unfold Hid; rw [HE1.out, range_all (fun i hi => HAL.out i (by omega))]; rfl
      go_wp2_with (go_at_call 78; refine (ascRx_any lo _ F _ (HV.out.below HBr.out)).mono ?_; rintro e w1 ⟨rfl, hb1⟩; have HB1 := hide hb1; clear hb1)
      go_ret
      exact ⟨ret_bool HT.out.symm, bt HBr.out HB1.out⟩

set_option maxRecDepth 20000 in
set_option maxHeartbeats 8000000 in
theorem flightI_any (lo : Nat) (v : Value) (F : List Rm) (n : Int) (w : World) (hv : RmsAt lo w v F) :
    Calls Try.prog 42 #[v, .int .i64 n] w fun e w' => e = .returned (.bool (decide (F.length ≤ 600) && fligB F n)) ∧ Below w.heap.size w w' := by
  have HV := hide hv
  have hm := hv.max
  unfold maxLen at hm
  obtain ⟨a, cap, rfl⟩ := hv.form
  clear hv
  obtain ⟨Q, hQ⟩ : ∃ Q, Q = (decide (F.length ≤ 600) && fligB F n) := ⟨_, rfl⟩
  rw [← hQ]
  have HE1 := hide hQ
  clear hQ
  cases q0 : decide (F.length ≤ 600) with
  | false =>
    have hq := of_decide_eq_false q0
    have HNo : Hid (Q = false) := by unfold Hid; rw [HE1.out, q0]; rfl
    go_enter Try.func42, Try.ntmps42
    go_wp2
    go_ret
    exact ⟨ret_bool HNo.out.symm, Below.refl _ _⟩
  | true =>
  have hq := of_decide_eq_true q0
  replace HE1 : Hid (Q = fligB F n) := by unfold Hid; rw [HE1.out, q0]; rfl
  clear q0
  go_enter Try.func42, Try.ntmps42
  go_wp2
  go_loopw [12] (fun i wr => ∃ k : Nat, i = .int .i64 k ∧ k ≤ F.length ∧ Below w.heap.size w wr ∧ ∀ j, j < k → mokB F n j = true) (fun i _ => F.length - (intOf i).toNat)
  case atStart => exact ⟨0, rfl, by omega, Below.refl _ _, fun j h => by omega⟩
  case round =>
    obtain ⟨k, rfl, hk, hb, hall⟩ := hrel
    have HAL := hide hall
    have HBr := hide hb
    clear hall hb
    by_cases hlt : k < F.length
    · obtain ⟨b, off, rfl, hbw, -, hc⟩ := HV.out.full' (by omega)
      obtain ⟨cs, hr, hx⟩ := hc k hlt
      obtain ⟨x, hxx⟩ : ∃ x, x = F[k] := ⟨_, rfl⟩
      have HDK : Hid (mokB F n k = msgB x n) := by unfold Hid; rw [mok_at hlt, ← hxx]
      rw [← hxx] at hx
      have HX := hide (hx.below HBr.out)
      have HR := hide (rng_below hr HBr.out hbw)
      have HLN : Hid (cs.length = 8) := hx.len
      have HL8 : Hid (cs.toArray.size = 8) := hx.len
      have HON : Hid (cs.toArray.all (·.oneCell') = true) := hx.one
      have i0 : (0 : Int) ≤ (k : Int) := by omega
      have i1 : (k : Int) < (F.length : Int) := by omega
      clear hc hxx hr hx
      have HSy0 : Hid ((Try.prog.info? 65).map (·.size) = some cs.length) := by unfold Hid; rw [HLN.out]; exact Rm_sizeI
      have HSz0 : Hid ((Try.prog.info? 65).map (·.size) = some cs.toArray.size) := by unfold Hid; rw [HL8.out]; exact Rm_sizeI
      have HTH : Hid (World.there (wr.alloc (.cells #[.int .i64 0, .int .i64 0, .int .i64 0, .int .i64 0, .int .i64 0, .int .i64 0, .string ⟨#[]⟩, .slice none 0 0] 65)) wr.heap.size 0 cs.toArray.size) := by unfold Hid; rw [HL8.out]; exact (Box.new _ _ _ _ rfl).there rfl
      go_wp2_with (first
        | (with_reducible refine wpList_load_mid (by with_reducible rfl) 65 (.tmp 14) (by with_reducible rfl) b (off + k * 8) (by with_unfolding_all rfl) cs _ HR.out Try.underlying65 (by with_unfolding_all rfl) HSy0.out ?_)
        | (with_reducible refine wpList_store_mid (by with_reducible rfl) 65 (.tmp 6) (.tmp 15) (by with_reducible rfl) wr.heap.size 0 cs.toArray (by with_unfolding_all rfl) (by with_unfolding_all rfl) HTH.out HSz0.out HON.out ?_; refine Hid.out ?_))
      generalize hWb : World.setCells _ _ _ _ = Wb
      have HBx : Hid (Below wr.heap.size wr Wb) := by unfold Hid; rw [← hWb]; exact Below.sets (Nat.le_refl _) _ _ (one_al _ _)
      have BX : Hid (Box Wb wr.heap.size cs.toArray) := by unfold Hid; rw [← hWb]; exact (Box.new _ _ _ _ rfl).full (by rw [HL8.out]; rfl)
      clear hWb HTH HSz0 HR
      refine hide ?_
      have HRG := hide (BX.out.range (l := cs) rfl)
      go_wp2_with (with_reducible refine wpList_load_mid (by with_reducible rfl) 65 (.tmp 6) (by with_reducible rfl) wr.heap.size 0 (by with_unfolding_all rfl) cs _ HRG.out Try.underlying65 (by with_unfolding_all rfl) HSy0.out ?_)
      replace HX := hide (HX.out.below HBx.out)
      refine (implMsg_any lo _ x _ _ HX.out).mono ?_
      rintro e w1 ⟨rfl, hb1⟩
      have HB1 : Hid (Below w.heap.size w w1) := bt HBr.out (bt HBx.out hb1)
      clear hb1 HX HBx
      cases q2 : msgB x n with
      | false =>
        have HNo : Hid (Q = false) := by unfold Hid; rw [HE1.out]; exact range_not hlt (by rw [HDK.out, q2])
        go_wp2
        go_ret
        exact ⟨ret_bool HNo.out.symm, HB1.out⟩
      | true =>
        have HT : Hid (mokB F n k = true) := by unfold Hid; rw [HDK.out, q2]
        go_wp2
        go_roundw
        case rel => exact ⟨k + 1, by go_num, by omega, HB1.out, fun j hj => by
                      by_cases e : j = k
                      · rw [e]; exact HT.out
                      · exact HAL.out j (by omega)⟩
        case measure => simp [intOf]; omega
    · have HT : Hid (Q = true) := by unfold Hid; rw [HE1.out]; exact range_all (fun i hi => HAL.out i (by omega))
      go_wp2
      go_ret
      exact ⟨ret_bool HT.out.symm, HBr.out⟩

set_option maxRecDepth 20000 in
set_option maxHeartbeats 8000000 in
theorem recsI_any (lo : Nat) (v : Value) (R : List Rr) (w : World) (hv : RrsAt lo w v R) :
    Calls Try.prog 41 #[v] w fun e w' => e = .returned (.bool (inB 1 5 (R.length : Int) && recsB R)) ∧ Below w.heap.size w w' := by
  have HV := hide hv
  have hm := hv.max
  unfold maxLen at hm
  obtain ⟨a, cap, rfl⟩ := hv.form
  clear hv
  obtain ⟨Q, hQ⟩ : ∃ Q, Q = (inB 1 5 (R.length : Int) && recsB R) := ⟨_, rfl⟩
  rw [← hQ]
  have HE1 := hide hQ
  clear hQ
  obtain ⟨n, hn⟩ : ∃ n, n = R.length := ⟨_, rfl⟩
  have HRB : Hid (recsB R = (List.range R.length).all (rokB R (n : Int))) := by unfold Hid; rw [hn]; rfl
  rw [← hn] at hm HE1 ⊢
  have HNN := hide hn
  clear hn
  go_enter Try.func41, Try.ntmps41
  cases q0 : inB 1 5 (n : Int) with
  | false =>
    have HNo : Hid (Q = false) := by unfold Hid; rw [HE1.out, q0]; rfl
    go_wp2_with (go_at_call 22; refine (within_any _ _ _ _).mono ?_; rw [q0]; rintro e w ⟨rfl, rfl⟩)
    go_ret
    exact ⟨ret_bool HNo.out.symm, Below.refl _ _⟩
  | true =>
  replace HE1 : Hid (Q = recsB R) := by unfold Hid; rw [HE1.out, q0]; rfl
  go_wp2_with (go_at_call 22; refine (within_any _ _ _ _).mono ?_; rw [q0]; rintro e w ⟨rfl, rfl⟩)
  clear q0
  go_loopw [13] (fun i wr => ∃ k : Nat, i = .int .i64 k ∧ k ≤ n ∧ Below w.heap.size w wr ∧ ∀ j, j < k → rokB R (n : Int) j = true) (fun i _ => n - (intOf i).toNat)
  case atStart => exact ⟨0, rfl, by omega, Below.refl _ _, fun j h => by omega⟩
  case round =>
    obtain ⟨k, rfl, hk, hb, hall⟩ := hrel
    have HAL := hide hall
    have HBr := hide hb
    clear hall hb
    by_cases hlt : k < n
    · have hkl : k < R.length := by rw [← HNN.out]; exact hlt
      obtain ⟨b, off, rfl, hbw, -, hc⟩ := HV.out.full' (by omega)
      obtain ⟨cs, hr, hx⟩ := hc k hkl
      obtain ⟨x, hxx⟩ : ∃ x, x = R[k] := ⟨_, rfl⟩
      have HDK : Hid (rokB R (n : Int) k = (validR x && (decide (x.nu = (k : Int) + 1) && decide (x.of = (n : Int))))) := by unfold Hid; rw [rok_at hkl, ← hxx]
      rw [← hxx] at hx
      have HX := hide (hx.below HBr.out)
      have HR := hide (rng_below hr HBr.out hbw)
      have HLN : Hid (cs.length = 18) := hx.len
      have HL8 : Hid (cs.toArray.size = 18) := hx.len
      have HON : Hid (cs.toArray.all (·.oneCell') = true) := hx.one
      have hcs : cs[0]? = some (.int .i64 x.nu) ∧ cs[1]? = some (.int .i64 x.of) := by
        obtain ⟨a0, k0, a1, k1, a2, k2, a3, k3, a4, k4, a5, k5, a6, k6, hcs, _⟩ := hx
        rw [hcs]
        exact ⟨rfl, rfl⟩
      have HCS := hide hcs
      have i0 : (0 : Int) ≤ (k : Int) := by omega
      have i1 : (k : Int) < (n : Int) := by omega
      clear hc hxx hr hx hcs
      have HSy0 : Hid ((Try.prog.info? 51).map (·.size) = some cs.length) := by unfold Hid; rw [HLN.out]; exact Rr_sizeI
      have HSz0 : Hid ((Try.prog.info? 51).map (·.size) = some cs.toArray.size) := by unfold Hid; rw [HL8.out]; exact Rr_sizeI
      have HTH : Hid (World.there (wr.alloc (.cells #[.int .i64 0, .int .i64 0, .bool false, .int .i64 0, .int .i64 0, .slice none 0 0, .int .i64 0, .int .i64 0, .slice none 0 0, .slice none 0 0, .slice none 0 0, .bool false, .bool false, .int .i64 0, .slice none 0 0, .slice none 0 0, .slice none 0 0, .int .i64 0] 51)) wr.heap.size 0 cs.toArray.size) := by unfold Hid; rw [HL8.out]; exact (Box.new _ _ _ _ rfl).there rfl
      go_wp2_with (first
        | (with_reducible refine wpList_load_mid (by with_reducible rfl) 51 (.tmp 16) (by with_reducible rfl) b (off + k * 18) (by with_unfolding_all rfl) cs _ HR.out Try.underlying51 (by with_unfolding_all rfl) HSy0.out ?_)
        | (with_reducible refine wpList_store_mid (by with_reducible rfl) 51 (.tmp 5) (.tmp 17) (by with_reducible rfl) wr.heap.size 0 cs.toArray (by with_unfolding_all rfl) (by with_unfolding_all rfl) HTH.out HSz0.out HON.out ?_; refine Hid.out ?_))
      generalize hWb : World.setCells _ _ _ _ = Wb
      have HBx : Hid (Below wr.heap.size wr Wb) := by unfold Hid; rw [← hWb]; exact Below.sets (Nat.le_refl _) _ _ (one_al _ _)
      have BX : Hid (Box Wb wr.heap.size cs.toArray) := by unfold Hid; rw [← hWb]; exact (Box.new _ _ _ _ rfl).full (by rw [HL8.out]; rfl)
      clear hWb HTH HSz0 HR
      refine hide ?_
      have c0 : Wb.cell? ⟨wr.heap.size, 0, none⟩ = some (.int .i64 x.nu) := by rw [BX.out.cell 0]; simpa using HCS.out.1
      have c1 : Wb.cell? ⟨wr.heap.size, 1, none⟩ = some (.int .i64 x.of) := by rw [BX.out.cell 1]; simpa using HCS.out.2
      have HBB : Hid (Below w.heap.size w Wb) := bt HBr.out HBx.out
      have HRG := hide (BX.out.range (l := cs) rfl)
      have HNo : Hid (rokB R (n : Int) k = false → Q = false) := by unfold Hid; intro h; rw [HE1.out, HRB.out]; exact range_not hkl h
      cases q3 : decide (x.nu = (k : Int) + 1) with
      | false =>
        have hq3 := of_decide_eq_false q3
        have HN2 : Hid (Q = false) := HNo.out (by rw [HDK.out, q3]; simp)
        go_wp2
        go_ret
        exact ⟨ret_bool HN2.out.symm, HBB.out⟩
      | true =>
        have hq3 := of_decide_eq_true q3
        cases q4 : decide (x.of = (n : Int)) with
        | false =>
          have hq4 := of_decide_eq_false q4
          have HN2 : Hid (Q = false) := HNo.out (by rw [HDK.out, q3, q4]; simp)
          go_wp2
          go_ret
          exact ⟨ret_bool HN2.out.symm, HBB.out⟩
        | true =>
          have hq4 := of_decide_eq_true q4
          have HSy : Hid ((Try.prog.info? 51).map (·.size) = some cs.length) := by unfold Hid; rw [HLN.out]; exact Rr_sizeI
          go_wp2_with (with_reducible refine wpList_load_gd (by with_unfolding_all rfl) 51 (.tmp 5) (by with_reducible rfl) wr.heap.size 0 (by with_unfolding_all rfl) cs _ HRG.out Try.underlying51 (by with_unfolding_all rfl) HSy.out ?_)
          refine (implValidR_any lo _ x _ (HX.out.below HBx.out)).mono ?_
          rintro e w1 ⟨rfl, hb1⟩
          have HB1 : Hid (Below w.heap.size w w1) := bt HBB.out hb1
          clear hb1
          cases q2 : validR x with
          | false =>
            have HN2 : Hid (Q = false) := HNo.out (by rw [HDK.out, q2]; rfl)
            go_wp2
            go_ret
            exact ⟨ret_bool HN2.out.symm, HB1.out⟩
          | true =>
            have HT : Hid (rokB R (n : Int) k = true) := by unfold Hid; rw [HDK.out, q2, q3, q4]; rfl
            go_wp2
            go_roundw
            case rel => exact ⟨k + 1, by go_num, by omega, HB1.out, fun j hj => by
                          by_cases e : j = k
                          · rw [e]; exact HT.out
                          · exact HAL.out j (by omega)⟩
            case measure => simp [intOf]; omega
    · have HT : Hid (Q = true) := by unfold Hid; rw [HE1.out, HRB.out]; exact range_all (fun i hi => HAL.out i (by rw [← HNN.out] at hi; omega))
      go_wp2
      go_ret
      exact ⟨ret_bool HT.out.symm, HBr.out⟩

set_option maxRecDepth 20000 in
set_option maxHeartbeats 8000000 in
theorem implWorldR_any (lo : Nat) (cs : List Value) (U : Wd) (w : World) (h : WdC lo w cs U) :
    Calls Try.prog 15 #[.agg cs.toArray] w fun e w' => e = .returned (.bool (wldB U)) ∧ Below w.heap.size w w' := by
  obtain ⟨a0, k0, a1, k1, a2, k2, rfl, h⟩ := h
  show Calls Try.prog 15 #[.agg #[.slice a0 U.rs.length k0, .slice a1 U.fl.length k1, .slice a2 U.fx.length k2]] w _
  have HL := hide h
  have m0 := h.l0.max
  have m1 := h.l1.max
  have m2 := h.l2.max
  unfold maxLen at m0 m1 m2
  clear h
  have HE0 : Hid (wldB U = ((inB 1 5 (U.rs.length : Int) && recsB U.rs) && ((decide (U.fl.length ≤ 600) && fligB U.fl (U.rs.length : Int)) && fixB U.fx))) := by
    unfold Hid wldB
    cases inB 1 5 (U.rs.length : Int) <;> cases decide (U.fl.length ≤ 600) <;> cases recsB U.rs <;> cases fligB U.fl (U.rs.length : Int) <;> rfl
  obtain ⟨Q, hQ⟩ : ∃ Q, Q = wldB U := ⟨_, rfl⟩
  rw [← hQ] at HE0 ⊢
  clear hQ
  go_enter Try.func15, Try.ntmps15
  go_wp2_with fail
  obtain ⟨Wa, hWa, HB, FX⟩ : ∃ Wa, Wa = w.alloc (.cells #[.slice a0 U.rs.length k0, .slice a1 U.fl.length k1, .slice a2 U.fx.length k2] 26) ∧ Hid (Below w.heap.size w Wa) ∧ Hid (Box Wa w.heap.size #[.slice a0 U.rs.length k0, .slice a1 U.fl.length k1, .slice a2 U.fx.length k2]) := ⟨_, rfl, one_al _ _, Box.new _ _ _ _ rfl⟩
  rw [← hWa]
  clear hWa
  refine (recsI_any lo _ U.rs _ (HL.out.below HB.out).l0).mono ?_
  rintro e w1 ⟨rfl, hb1⟩
  replace HB := hide (bt HB.out hb1)
  replace FX := hide (FX.out.on hb1)
  clear hb1
  cases q1 : (inB 1 5 (U.rs.length : Int) && recsB U.rs) with
  | false =>
    have HNo : Hid (Q = false) := by unfold Hid; rw [HE0.out, q1]; rfl
    go_wp2
    go_ret
    exact ⟨ret_bool HNo.out.symm, HB.out⟩
  | true =>
  have g0 := FX.out.cell
  go_wp2_with fail
  clear g0
  refine (flightI_any lo _ U.fl _ _ (HL.out.below HB.out).l1).mono ?_
  rintro e w2 ⟨rfl, hb2⟩
  replace HB := hide (bt HB.out hb2)
  replace FX := hide (FX.out.on hb2)
  clear hb2
  cases q2 : (decide (U.fl.length ≤ 600) && fligB U.fl (U.rs.length : Int)) with
  | false =>
    have HNo : Hid (Q = false) := by unfold Hid; rw [HE0.out, q1, q2]; rfl
    go_wp2
    go_ret
    exact ⟨ret_bool HNo.out.symm, HB.out⟩
  | true =>
  have HT : Hid (Q = fixB U.fx) := by unfold Hid; rw [HE0.out, q1, q2]; rfl
  have g0 := FX.out.cell
  go_wp2_with fail
  clear g0
  refine (fixedI_any lo _ U.fx _ (HL.out.below HB.out).l2).mono ?_
  rintro e w3 ⟨rfl, hb3⟩
  replace HB := hide (bt HB.out hb3)
  clear hb3
  go_wp2
  go_ret
  exact ⟨ret_bool HT.out.symm, HB.out⟩
end Go.Proofs.Ytoklnkojacdciaa
