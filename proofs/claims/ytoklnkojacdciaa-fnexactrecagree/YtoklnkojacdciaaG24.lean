import Derived.Test.YtoklnkojacdciaaG15
import Derived.Test.YtoklnkojacdciaaG23
namespace Go.Proofs.Ytoklnkojacdciaa
open Go.RowKit Go.Deep

/-! what RecWorldOk says -/
def rokB (R : List Rr) (n : Int) (i : Nat) : Bool := match R[i]? with
  | some x => validR x && (decide (x.nu = (i : Int) + 1) && decide (x.of = n))
  | none => true
def mokB (F : List Rm) (n : Int) (i : Nat) : Bool := match F[i]? with
  | some x => msgB x n
  | none => true
def fixA (F : List Rx) (i : Nat) : Rx := F.getD i ⟨0, ⟨#[]⟩⟩
def xokB (F : List Rx) (i : Nat) : Bool := inB 1 120 (fixA F i).ix && (decide ((fixA F i).tx.size ≤ 160) && !(decide (0 < (i : Int)) && decide ((fixA F i).ix ≤ (fixA F (i - 1)).ix)))
def fixB (F : List Rx) : Bool := (List.range F.length).all (xokB F)
def recsB (R : List Rr) : Bool := (List.range R.length).all (rokB R (R.length : Int))
def fligB (F : List Rm) (n : Int) : Bool := (List.range F.length).all (mokB F n)
def wldB (U : Wd) : Bool := inB 1 5 (U.rs.length : Int) && (decide (U.fl.length ≤ 600) && (recsB U.rs && (fligB U.fl (U.rs.length : Int) && fixB U.fx)))
theorem rok_at {R : List Rr} {n : Int} {i : Nat} (h : i < R.length) : rokB R n i = (validR R[i] && (decide (R[i].nu = (i : Int) + 1) && decide (R[i].of = n))) := by
  unfold rokB; rw [List.getElem?_eq_getElem h]
theorem mok_at {F : List Rm} {n : Int} {i : Nat} (h : i < F.length) : mokB F n i = msgB F[i] n := by
  unfold mokB; rw [List.getElem?_eq_getElem h]
theorem fixA_at {F : List Rx} {k : Nat} (h : k < F.length) : fixA F k = F[k] := by
  unfold fixA
  rw [List.getD_eq_getElem?_getD, List.getElem?_eq_getElem h]; rfl

set_option maxRecDepth 20000 in
set_option maxHeartbeats 8000000 in
theorem specWorldR_any (lo : Nat) (cs : List Value) (U : Wd) (w : World) (h : WdC lo w cs U) (hn : WdSmall U) :
    Calls Try.prog 13 #[.agg cs.toArray] w fun e w' => e = .returned (.bool (wldB U)) ∧ Below w.heap.size w w' := by
  obtain ⟨a0, k0, a1, k1, a2, k2, rfl, h⟩ := h
  show Calls Try.prog 13 #[.agg #[.slice a0 U.rs.length k0, .slice a1 U.fl.length k1, .slice a2 U.fx.length k2]] w _
  have HL := hide h
  have HN := hide hn
  have m0 := h.l0.max
  have m1 := h.l1.max
  have m2 := h.l2.max
  unfold maxLen at m0 m1 m2
  clear h hn
  have HE0 : Hid (wldB U = (inB 1 5 (U.rs.length : Int) && (decide (U.fl.length ≤ 600) && (recsB U.rs && (fligB U.fl (U.rs.length : Int) && fixB U.fx))))) := rfl
  go_enter Try.func13, Try.ntmps13
  go_upto_region 2 with fail
  obtain ⟨Wa, hWa, HB, FX⟩ : ∃ Wa, Wa = w.alloc (.cells #[.slice a0 U.rs.length k0, .slice a1 U.fl.length k1, .slice a2 U.fx.length k2] 26) ∧ Hid (Below w.heap.size w Wa) ∧ Hid (Box Wa w.heap.size #[.slice a0 U.rs.length k0, .slice a1 U.fl.length k1, .slice a2 U.fx.length k2]) := ⟨_, rfl, one_al _ _, Box.new _ _ _ _ rfl⟩
  rw [← hWa]
  clear hWa
  replace HL := hide (HL.out.below HB.out)
  obtain ⟨n, hn⟩ : ∃ n, n = U.rs.length := ⟨_, rfl⟩
  rw [← hn] at m0 FX HE0 ⊢
  have HNN := hide hn
  clear hn
  cases q0 : inB 1 5 (n : Int) with
  | false =>
    have HNo : Hid (wldB U = false) := by unfold Hid; rw [HE0.out, q0]; rfl
    go_wp2_with (go_at_call 20; refine (in21_any _ _ _ _).mono ?_; rw [q0]; rintro e Wa ⟨rfl, rfl⟩)
    go_ret
    exact ⟨ret_bool HNo.out.symm, HB.out⟩
  | true =>
  have HQ0 := hide q0
  have z1 : Wa.cell? ⟨w.heap.size, 1, none⟩ = some (.slice a1 U.fl.length k1) := FX.out.cell 1
  cases q1 : decide (U.fl.length ≤ 600) with
  | false =>
    have hq1 := of_decide_eq_false q1
    have HNo : Hid (wldB U = false) := by unfold Hid; rw [HE0.out, q0, q1]; rfl
    go_wp2_with (go_at_call 20; refine (in21_any _ _ _ _).mono ?_; rw [q0]; rintro e Wa ⟨rfl, rfl⟩)
    go_ret
    exact ⟨ret_bool HNo.out.symm, HB.out⟩
  | true =>
  have hq1 := of_decide_eq_true q1
  have HQ1 := hide q1
  go_wp2_with (go_at_call 20; refine (in21_any _ _ _ _).mono ?_; rw [q0]; rintro e Wa ⟨rfl, rfl⟩)
  clear q0 q1 z1
  go_loopw [4] (fun i wr => ∃ k : Nat, i = .int .i64 k ∧ k ≤ n ∧ Below Wa.heap.size Wa wr ∧ ∀ j, j < k → rokB U.rs (n : Int) j = true) (fun i _ => n - (intOf i).toNat)
  case atStart => exact ⟨0, rfl, by omega, Below.refl _ _, fun j h => by omega⟩
  case round =>
    obtain ⟨k, rfl, hk, hb, hall⟩ := hrel
    have HAL := hide hall
    have HBr := hide hb
    clear hall hb
    by_cases hlt : k < n
    · have hkl : k < U.rs.length := by rw [← HNN.out]; exact hlt
      obtain ⟨b, off, rfl, hbw, -, hc⟩ := HL.out.l0.full' (by omega)
      obtain ⟨cs, hr, hx⟩ := hc k hkl
      obtain ⟨x, hxx⟩ : ∃ x, x = U.rs[k] := ⟨_, rfl⟩
      have HDK : Hid (rokB U.rs (n : Int) k = (validR x && (decide (x.nu = (k : Int) + 1) && decide (x.of = (n : Int))))) := by unfold Hid; rw [rok_at hkl, ← hxx]
      have HSX : Hid (RrSmall x) := by unfold Hid; rw [hxx]; exact HN.out.1.2 k hkl
      rw [← hxx] at hx
      have HX := hide (hx.below HBr.out)
      have hR := rng_below hr HBr.out hbw
      have HR := hide hR
      have HZ : Hid ((Try.prog.info? 51).map (·.size) = some cs.length) := by unfold Hid; rw [hx.len]; exact Rr_sizeI
      have z0 : wr.cell? ⟨w.heap.size, 0, none⟩ = some (.slice (some ⟨b, off, none⟩) n k0) := (FX.out.on HBr.out).cell 0
      obtain ⟨c0, c1⟩ : wr.cell? ⟨b, off + k * 18, none⟩ = some (.int .i64 x.nu) ∧ wr.cell? ⟨b, off + k * 18 + 1, none⟩ = some (.int .i64 x.of) := by
        obtain ⟨a0, k0, a1, k1, a2, k2, a3, k3, a4, k4, a5, k5, a6, k6, hcs, _⟩ := hx
        rw [hcs] at hR
        exact ⟨hR 0 _ rfl, hR 1 _ rfl⟩
      have hbr : b < wr.heap.size := Nat.lt_of_lt_of_le hbw HBr.out.size
      have hFr : w.heap.size < wr.heap.size := (FX.out.on HBr.out).lt
      have HCC : Hid (∀ W, Below wr.heap.size wr W → W.cell? ⟨b, off + k * 18, none⟩ = some (.int .i64 x.nu) ∧ W.cell? ⟨b, off + k * 18 + 1, none⟩ = some (.int .i64 x.of) ∧ W.cell? ⟨w.heap.size, 0, none⟩ = some (.slice (some ⟨b, off, none⟩) n k0)) := fun W hW => ⟨by rw [hW.cell hbr]; exact c0, by rw [hW.cell hbr]; exact c1, by rw [hW.cell hFr]; exact z0⟩
      have i0 : (0 : Int) ≤ (k : Int) := by omega
      have i1 : (k : Int) < (n : Int) := by omega
      clear hc hxx hr hx hR c0 c1 hbr hFr
      go_wp2_with (with_reducible refine wpList_load_mid (by with_reducible rfl) 51 (.tmp 27) (by with_reducible rfl) b (off + k * 18) (by with_unfolding_all rfl) cs _ HR.out Try.underlying51 (by with_unfolding_all rfl) HZ.out ?_)
      refine (specValidR_any lo _ x _ HX.out HSX.out).mono ?_
      rintro e w1 ⟨rfl, hb1⟩
      obtain ⟨c0, c1, z0⟩ := HCC.out w1 hb1
      have HB1 : Hid (Below Wa.heap.size Wa w1) := bt HBr.out hb1
      clear hb1 HCC HX HR HZ HSX
      cases q2 : validR x with
      | false =>
        have HNo : Hid (wldB U = false) := by unfold Hid; rw [HE0.out, show recsB U.rs = false from range_not (HNN.out ▸ hlt) (by rw [← HNN.out, HDK.out, q2]; rfl)]; simp
        go_wp2
        go_ret
        exact ⟨ret_bool HNo.out.symm, bt HB.out HB1.out⟩
      | true =>
        cases q3 : decide (x.nu = (k : Int) + 1) with
        | false =>
          have hq3 := of_decide_eq_false q3
          have HNo : Hid (wldB U = false) := by unfold Hid; rw [HE0.out, show recsB U.rs = false from range_not (HNN.out ▸ hlt) (by rw [← HNN.out, HDK.out, q2, q3]; rfl)]; simp
          go_wp2
          go_ret
          exact ⟨ret_bool HNo.out.symm, bt HB.out HB1.out⟩
        | true =>
          have hq3 := of_decide_eq_true q3
          cases q4 : decide (x.of = (n : Int)) with
          | false =>
            have hq4 := of_decide_eq_false q4
            have HNo : Hid (wldB U = false) := by unfold Hid; rw [HE0.out, show recsB U.rs = false from range_not (HNN.out ▸ hlt) (by rw [← HNN.out, HDK.out, q2, q3, q4]; rfl)]; simp
            go_wp2
            go_ret
            exact ⟨ret_bool HNo.out.symm, bt HB.out HB1.out⟩
          | true =>
            have hq4 := of_decide_eq_true q4
            have HT : Hid (rokB U.rs (n : Int) k = true) := by unfold Hid; rw [HDK.out, q2, q3, q4]; rfl
            go_wp2
            go_roundw
            case rel => exact ⟨k + 1, by go_num, by omega, HB1.out, fun j hj => by
                          by_cases e : j = k
                          · rw [e]; exact HT.out
                          · exact HAL.out j (by omega)⟩
            case measure => simp [intOf]; omega
    · have HRS : Hid (recsB U.rs = true) := range_all (fun i hi => by rw [← HNN.out] at hi ⊢; exact HAL.out i (by omega))
      clear HAL
      go_wp2
      go_loopw [5] (fun i wr => ∃ k : Nat, i = .int .i64 k ∧ k ≤ U.fl.length ∧ Below Wa.heap.size Wa wr ∧ ∀ j, j < k → mokB U.fl (n : Int) j = true) (fun i _ => U.fl.length - (intOf i).toNat)
      case atStart => exact ⟨0, rfl, by omega, HBr.out, fun j h => by omega⟩
      case round =>
        clear HBr
        obtain ⟨l, rfl, hl, hb, hall⟩ := hrel
        have HAL := hide hall
        have HBr := hide hb
        clear hall hb
        have z1 : wr.cell? ⟨w.heap.size, 1, none⟩ = some (.slice a1 U.fl.length k1) := (FX.out.on HBr.out).cell 1
        by_cases hlt : l < U.fl.length
        · obtain ⟨b, off, rfl, hbw, -, hc⟩ := HL.out.l1.full' (by omega)
          obtain ⟨cs, hr, hx⟩ := hc l hlt
          obtain ⟨x, hxx⟩ : ∃ x, x = U.fl[l] := ⟨_, rfl⟩
          have HDK : Hid (mokB U.fl (n : Int) l = msgB x (n : Int)) := by unfold Hid; rw [mok_at hlt, ← hxx]
          rw [← hxx] at hx
          have HX := hide (hx.below HBr.out)
          have HR := hide (rng_below hr HBr.out hbw)
          have HZ : Hid ((Try.prog.info? 65).map (·.size) = some cs.length) := by unfold Hid; rw [hx.len]; exact Rm_sizeI
          have i0 : (0 : Int) ≤ (l : Int) := by omega
          have i1 : (l : Int) < (U.fl.length : Int) := by omega
          clear hc hxx hr hx
          go_wp2_with (with_reducible refine wpList_load_mid (by with_reducible rfl) 65 (.tmp 62) (by with_reducible rfl) b (off + l * 8) (by with_unfolding_all rfl) cs _ HR.out Try.underlying65 (by with_unfolding_all rfl) HZ.out ?_)
          refine (specMsg_any lo _ x _ _ HX.out).mono ?_
          rintro e w1 ⟨rfl, hb1⟩
          have HB1 : Hid (Below Wa.heap.size Wa w1) := bt HBr.out hb1
          clear hb1 HX HR HZ
          cases q2 : msgB x (n : Int) with
          | false =>
            have HNo : Hid (wldB U = false) := by unfold Hid; rw [HE0.out, show fligB U.fl (n : Int) = false from range_not hlt (by rw [HDK.out, q2])]; simp
            go_wp2
            go_ret
            exact ⟨ret_bool HNo.out.symm, bt HB.out HB1.out⟩
          | true =>
            have HT : Hid (mokB U.fl (n : Int) l = true) := by unfold Hid; rw [HDK.out, q2]
            go_wp2
            go_roundw
            case rel => exact ⟨l + 1, by go_num, by omega, HB1.out, fun j hj => by
                          by_cases e : j = l
                          · rw [e]; exact HT.out
                          · exact HAL.out j (by omega)⟩
            case measure => simp [intOf]; omega
        · have HFS : Hid (fligB U.fl (n : Int) = true) := range_all (fun i hi => HAL.out i (by omega))
          have HE1 : Hid (wldB U = fixB U.fx) := by unfold Hid; rw [HE0.out, HQ0.out, HQ1.out, HRS.out, HFS.out]; rfl
          clear HAL
          go_wp2
          go_loopw [6] (fun i wr => ∃ k : Nat, i = .int .i64 k ∧ k ≤ U.fx.length ∧ Below Wa.heap.size Wa wr ∧ ∀ j, j < k → xokB U.fx j = true) (fun i _ => U.fx.length - (intOf i).toNat)
          case atStart => exact ⟨0, rfl, by omega, HBr.out, fun j h => by omega⟩
          case round =>
            clear HBr
            obtain ⟨t, rfl, ht, hb, hall⟩ := hrel
            have HAL := hide hall
            have HBr := hide hb
            clear hall hb z1
            have z2 : wr.cell? ⟨w.heap.size, 2, none⟩ = some (.slice a2 U.fx.length k2) := (FX.out.on HBr.out).cell 2
            by_cases hlt : t < U.fx.length
            · obtain ⟨b, off, rfl, hbw, -, hc⟩ := HL.out.l2.full' (by omega)
              obtain ⟨x, hx⟩ : ∃ x, x = fixA U.fx t := ⟨_, rfl⟩
              obtain ⟨p, hp⟩ : ∃ p, p = (fixA U.fx (t - 1)).ix := ⟨_, rfl⟩
              have HDK : Hid (xokB U.fx t = (inB 1 120 x.ix && (decide (x.tx.size ≤ 160) && !(decide (0 < (t : Int)) && decide (x.ix ≤ p))))) := by unfold Hid xokB; rw [← hx, ← hp]
              have hcz := hc t hlt
              rw [← fixA_at hlt, ← hx] at hcz
              have HY := hcz.2.below HBr.out hbw
              have hsz : x.tx.size ≤ maxLen := hcz.1.s0
              unfold maxLen at hsz
              have HC0 : Hid (wr.cell? ⟨b, off + t * 2, none⟩ = some (.int .i64 x.ix)) := HY.c0
              have HC1 : Hid (wr.cell? ⟨b, off + t * 2 + 1, none⟩ = some (.string x.tx)) := HY.c1
              have HP : Hid (0 < t → wr.cell? ⟨b, off + (t - 1) * 2, none⟩ = some (.int .i64 p)) := by
                unfold Hid
                intro hk0
                have hcy := ((hc (t - 1) (by omega)).2.below HBr.out hbw).c0
                rw [hp, fixA_at (by omega)]
                exact hcy
              clear hc hx hp hcz
              go_wp2
              go_cut [111] (fun c wc => c = .bool (!(xokB U.fx t)) ∧ Below wr.heap.size wr wc)
              case first =>
                have xn : Nonempty (In (Up wr)) := ⟨⟨wr, Below.refl _ _⟩⟩
                have xs := fun (X : In (Up wr)) => in_self X
                have s0 : ∀ X : In (Up wr), _ := fun X => Up.cell X HC0.out
                have s2 : ∀ X : In (Up wr), _ := fun X => Up.cell X HC1.out
                have s3 : ∀ X : In (Up wr), _ := fun X => Up.cell X z2
                have i0 : (0 : Int) ≤ (t : Int) := by omega
                have i1 : (t : Int) < (U.fx.length : Int) := by omega
                refine wp_region_class (Up wr) (by kernel_rfl) (by kernel_rfl) ((Below.refl _ _).drew) ?_
                cases q1 : inB 1 120 x.ix with
                | false =>
                  repeat (go_big_quiet_step ((go_at_call 20; rename_i Y; exact (in21_any _ _ _ _).mono fun _ _ h => ⟨h.1, Up.next Y (by rw [h.2]; exact Below.refl _ _)⟩)))
                  refine wpQuiet_nil ?_
                  intro wn hw
                  obtain ⟨X, hX⟩ := hw
                  have HWN : Below wr.heap.size wr wn := by rw [hX]; exact X.h
                  clear hX X s0 s2 s3 xs xn
                  go_wp2
                  go_meet
                  exact ⟨congrArg Value.bool (by rw [HDK.out, q1]; rfl), HWN⟩
                | true =>
                cases q4 : decide (x.tx.size ≤ 160) with
                | false =>
                  have d4 : decide ((160 : Int) < (x.tx.size : Int)) = true := by have := of_decide_eq_false q4; simp; omega
                  repeat (go_big_quiet_step ((go_at_call 20; rename_i Y; exact (in21_any _ _ _ _).mono fun _ _ h => ⟨h.1, Up.next Y (by rw [h.2]; exact Below.refl _ _)⟩)))
                  refine wpQuiet_nil ?_
                  intro wn hw
                  obtain ⟨X, hX⟩ := hw
                  have HWN : Below wr.heap.size wr wn := by rw [hX]; exact X.h
                  clear hX X s0 s2 s3 xs xn
                  go_wp2
                  go_meet
                  exact ⟨congrArg Value.bool (by rw [HDK.out, q1, q4]; rfl), HWN⟩
                | true =>
                have d4 : decide ((160 : Int) < (x.tx.size : Int)) = false := by have := of_decide_eq_true q4; simp; omega
                by_cases q2 : 0 < t
                · have d2 : decide (0 < (t : Int)) = true := by simp; omega
                  have s1 : ∀ X : In (Up wr), _ := fun X => Up.cell X (HP.out q2)
                  have j0 : (0 : Int) ≤ (t : Int) - 1 := by omega
                  have j1 : (t : Int) - 1 < (U.fx.length : Int) := by omega
                  have jn : ((t : Int) - 1).toNat = t - 1 := by omega
                  cases q3 : decide (x.ix ≤ p) with
                  | true =>
                    repeat (go_big_quiet_step ((go_at_call 20; rename_i Y; exact (in21_any _ _ _ _).mono fun _ _ h => ⟨h.1, Up.next Y (by rw [h.2]; exact Below.refl _ _)⟩)))
                    refine wpQuiet_nil ?_
                    intro wn hw
                    obtain ⟨X, hX⟩ := hw
                    have HWN : Below wr.heap.size wr wn := by rw [hX]; exact X.h
                    clear hX X s0 s1 s2 s3 xs xn
                    go_wp2
                    go_meet
                    exact ⟨congrArg Value.bool (by rw [HDK.out, q1, q4, d2, q3]; rfl), HWN⟩
                  | false =>
                    repeat (go_big_quiet_step ((go_at_call 20; rename_i Y; exact (in21_any _ _ _ _).mono fun _ _ h => ⟨h.1, Up.next Y (by rw [h.2]; exact Below.refl _ _)⟩)))
                    refine wpQuiet_nil ?_
                    intro wn hw
                    obtain ⟨X, hX⟩ := hw
                    have HWN : Below wr.heap.size wr wn := by rw [hX]; exact X.h
                    clear hX X s0 s1 s2 s3 xs xn
                    go_wp2
                    go_meet
                    exact ⟨congrArg Value.bool (by rw [HDK.out, q1, q4, d2, q3]; rfl), HWN⟩
                · have d2 : decide (0 < (t : Int)) = false := by simp; omega
                  repeat (go_big_quiet_step ((go_at_call 20; rename_i Y; exact (in21_any _ _ _ _).mono fun _ _ h => ⟨h.1, Up.next Y (by rw [h.2]; exact Below.refl _ _)⟩)))
                  refine wpQuiet_nil ?_
                  intro wn hw
                  obtain ⟨X, hX⟩ := hw
                  have HWN : Below wr.heap.size wr wn := by rw [hX]; exact X.h
                  clear hX X s0 s2 s3 xs xn
                  go_wp2
                  go_meet
                  exact ⟨congrArg Value.bool (by rw [HDK.out, q1, q4, d2]; rfl), HWN⟩
              case rest =>
              obtain ⟨rfl, hbc⟩ := hcut
              have HBc : Hid (Below Wa.heap.size Wa wc) := bt HBr.out hbc
              clear hbc
              cases h7 : xokB U.fx t with
              | false =>
                have HNo : Hid (wldB U = false) := by unfold Hid; rw [HE1.out]; exact range_not hlt h7
                go_wp2
                go_ret
                exact ⟨ret_bool HNo.out.symm, bt HB.out HBc.out⟩
              | true =>
                have HT := hide h7
                go_wp2
                go_roundw
                case rel => exact ⟨t + 1, by go_num, by omega, HBc.out, fun j hj => by
                              by_cases e : j = t
                              · rw [e]; exact HT.out
                              · exact HAL.out j (by omega)⟩
                case measure => simp [intOf]; omega
            · have HE2 : Hid (wldB U = true) := by unfold Hid; rw [HE1.out]; exact range_all (fun i hi => HAL.out i (by omega))
              go_wp2
              go_ret
              exact ⟨ret_bool HE2.out.symm, bt HB.out HBr.out⟩
end Go.Proofs.Ytoklnkojacdciaa
