import Derived.Test.YtlednecohppljaaGreatV09
import Derived.Test.YtlednecohppljaaGreatV12
import Derived.Test.YtlednecohppljaaGreatV15
import Derived.Test.YtlednecohppljaaGreatV21
namespace Go.Proofs.YtlednecohppljaaGreat
open Go.RowKit Go.Deep

theorem markRss_two (lo hi : Nat) (v : Value) (Xl : List Rs) (k : Int) (w : World) (hv : RssOwn lo hi w v Xl) (hn : RssSmall Xl) (h0 : 0 ≤ k) (hk : k ≤ 2000000000000000000) :
    Calls Tryz.prog 49 #[v, .int .i64 k] w fun e w' => e = .returned (.int .i64 (k + 2 * (Xl.length : Int))) ∧ Touch lo hi w w' ∧ RssOwn lo hi w' v (mkRss k Xl) := by
  have := markRss_any lo hi v Xl k w hv hn h0 hk
  rw [posRs_all2] at this
  simpa using this

set_option maxRecDepth 20000 in
set_option maxHeartbeats 8000000 in
theorem markRms_any (lo hi : Nat) (v : Value) (Xl : List Rm) (k : Int) (w : World) (hv : RmsOwn lo hi w v Xl) (hn : RmsSmall Xl) (h0 : 0 ≤ k) (hk : k ≤ 1900000000000000000) :
    Calls Tryz.prog 46 #[v, .int .i64 k] w fun e w' => e = .returned (.int .i64 (k + (posRm Xl Xl.length : Int))) ∧ Touch lo hi w w' ∧ RmsOwn lo hi w' v (mkRms k Xl) := by
  rcases hv with ⟨a, cap, rfl, rfl⟩ | ⟨b, off, cap, c, X, rfl, hne, hm, hcap, hX, hR⟩
  · go_enter Tryz.func46, Tryz.ntmps46
    go_wp2
    go_loop [5, 1] (fun i q => i = .int .i64 0 ∧ q = .int .i64 k) (fun _ _ => 0)
    case atStart => exact ⟨rfl, rfl⟩
    case round =>
      obtain ⟨rfl, rfl⟩ := hrel
      go_wp2
      go_ret
      exact ⟨by simp [posRm], Touch.refl _ _ _, Or.inl ⟨_, _, rfl, rfl⟩⟩
  · have hlen := hn.1
    have HN := hide hn
    have HX := hide hX
    have HR0 := hide hR
    have HM := hide hm
    have HC := hide hcap
    have HNE := hide hne
    clear hn hX hR hm hcap hne
    go_enter Tryz.func46, Tryz.ntmps46
    go_wp2
    go_loopw [5, 1] (fun i q wr => ∃ j : Nat, i = .int .i64 j ∧ q = .int .i64 (k + (posRm Xl j : Int)) ∧ j ≤ Xl.length ∧ Touch lo hi w wr ∧ RmRow lo hi wr b off Xl.length c (fun i => if i < j then mkRm (k + (posRm Xl i : Int)) (X i) else X i)) (fun i _ _ => Xl.length - (intOf i).toNat)
    case atStart => exact ⟨0, rfl, by simp [posRm], by omega, Touch.refl _ _ _, HR0.out.to (fun i _ => by simp)⟩
    case round =>
      obtain ⟨j, rfl, rfl, hj, ht, hr⟩ := hrel
      have HT := hide ht
      have HR := hide hr
      clear ht hr HR0
      by_cases hlt : j < Xl.length
      · have hpos := posRm_le HN.out (i := j) (by omega)
        have HP := hide (posRm_succ hlt)
        have hone : RmOne b (off + j * 8) (c j).1 (c j).2 wr (X j) := by
          have := HR.out.row j hlt
          simp only [Nat.lt_irrefl, if_false] at this
          exact this
        have hxj : X j = Xl[j] := HX.out j hlt
        obtain ⟨x, hx⟩ : ∃ x, x = X j := ⟨_, rfl⟩
        rw [← hx] at hone
        obtain ⟨hs, vv0, q0, hc, l0⟩ := hone
        have hs0 : RssSmall x.sl := by rw [hx, hxj]; exact HN.out.2 j hlt
        have hs0n := hs0.1
        have HXJ := hide hxj
        have HXX := hide hx
        obtain ⟨K, hK⟩ : ∃ K, K = k + (posRm Xl j : Int) := ⟨_, rfl⟩
        rw [← hK]
        have hK0 : 0 ≤ K := by omega
        have hK1 : K ≤ 1950000000000000000 := by omega
        have HK := hide hK
        have HBC : Hid (b < (c j).1 ∨ (c j).2 ≤ b) := (HR.out.seg j hlt).2.2
        have HS : Hid (RmSt wr b (off + j * 8) (c j).1 (c j).2 vv0 wr x) := ⟨Near.refl _ _ _ _ _ _, HBC.out, q0, hc, l0, HR.out.frz, HR.out.lt⟩
        clear hpos hxj hx hs hc l0 q0 hK
        obtain ⟨d0, d1, d2, d3, d4, d5, d6, d7⟩ := HS.out.cells
        have fz := HS.out.frz
        go_wp2_with fail
        clear d0 d1 d2 d3 d4 d5 d6 d7 fz
        obtain ⟨v1, hv1, HS1⟩ : ∃ v', v' = ((((((wr.setCell ⟨b, off + j * 8, none⟩ (.int .i64 (K))).setCell ⟨b, off + j * 8 + 1, none⟩ (.int .i64 (K + 1))).setCell ⟨b, off + j * 8 + 2, none⟩ (.int .i64 (K + 1 + 1))).setCell ⟨b, off + j * 8 + 3, none⟩ (.int .i64 (K + 1 + 1 + 1))).setCell ⟨b, off + j * 8 + 4, none⟩ (.int .i64 (K + 1 + 1 + 1 + 1))).setCell ⟨b, off + j * 8 + 5, none⟩ (.int .i64 (K + 1 + 1 + 1 + 1 + 1))) ∧ Hid (RmSt wr b (off + j * 8) (c j).1 (c j).2 vv0 v' ⟨K, K + 1, K + 1 + 1, K + 1 + 1 + 1, K + 1 + 1 + 1 + 1, K + 1 + 1 + 1 + 1 + 1, x.tx, x.sl⟩) := ⟨_, rfl, ((((((HS.out.s0 (K)).s1 (K + 1)).s2 (K + 1 + 1)).s3 (K + 1 + 1 + 1)).s4 (K + 1 + 1 + 1 + 1)).s5 (K + 1 + 1 + 1 + 1 + 1))⟩
        rw [← hv1]
        clear hv1 HS
        refine (markText_any _ _ (by omega)).mono ?_
        rintro e v2 ⟨rfl, hb⟩
        have HS2 := hide (HS1.out.below hb)
        clear hb HS1
        obtain ⟨d0, d1, d2, d3, d4, d5, d6, d7⟩ := HS2.out.cells
        have fz := HS2.out.frz
        go_wp2_with fail
        clear d0 d1 d2 d3 d4 d5 d6 d7 fz
        obtain ⟨v3, hv3, HS3⟩ : ∃ v', v' = (v2.setCell ⟨b, off + j * 8 + 6, none⟩ (.string (mtB (K + 1 + 1 + 1 + 1 + 1 + 1)))) ∧ Hid (RmSt wr b (off + j * 8) (c j).1 (c j).2 vv0 v' ⟨K, K + 1, K + 1 + 1, K + 1 + 1 + 1, K + 1 + 1 + 1 + 1, K + 1 + 1 + 1 + 1 + 1, mtB (K + 1 + 1 + 1 + 1 + 1 + 1), x.sl⟩) := ⟨_, rfl, (HS2.out.s6 (mtB (K + 1 + 1 + 1 + 1 + 1 + 1)))⟩
        rw [← hv3]
        clear hv3 HS2
        refine (markRss_two _ _ _ x.sl _ _ HS3.out.l0 hs0 (by omega) (by omega)).mono ?_
        rintro e v4 ⟨rfl, ht, hl⟩
        have HS4 : Hid (RmSt wr b (off + j * 8) (c j).1 (c j).2 vv0 v4 ⟨K, K + 1, K + 1 + 1, K + 1 + 1 + 1, K + 1 + 1 + 1 + 1, K + 1 + 1 + 1 + 1 + 1, mtB (K + 1 + 1 + 1 + 1 + 1 + 1), mkRss (K + 1 + 1 + 1 + 1 + 1 + 1 + 1) x.sl⟩) := HS3.out.m0' ht hl
        clear ht hl HS3
        obtain ⟨d0, d1, d2, d3, d4, d5, d6, d7⟩ := HS4.out.cells
        have fz := HS4.out.frz
        go_wp2
        clear d0 d1 d2 d3 d4 d5 d6 d7 fz
        have HW : Hid (wdRm Xl[j] = 7 + 2 * x.sl.length) := by unfold Hid; rw [← HXJ.out, ← HXX.out]; rfl
        have HQ : Hid ((K + 1 + 1 + 1 + 1 + 1 + 1 + 1 + 2 * (x.sl.length : Int) : Int) = k + (posRm Xl (j + 1) : Int)) := by
          have h1 := HP.out
          have h2 := HW.out
          have h3 := HK.out
          unfold Hid
          omega
        have HRN := hide (HR.out.near hlt HS4.out.near (show RmOne b (off + j * 8) (c j).1 (c j).2 v4 (mkRm K x) from ⟨⟨mt_size _ (by omega)⟩, _, HS4.out.q0, HS4.out.cells, HS4.out.l0⟩))
        have HTN := hide (HS4.out.near.wide HR.out.lt (lo' := lo) (hi' := hi) (HR.out.seg j hlt).1 (HR.out.seg j hlt).2.1 ⟨HR.out.low, HR.out.bh⟩)
        go_roundw
        case rel =>
          refine ⟨j + 1, by go_num, congrArg (Value.int .i64) HQ.out, by omega, HT.out.trans HTN.out, HRN.out.to (fun i hi' => ?_)⟩
          by_cases e : i = j
          · subst e
            rw [if_pos rfl, if_pos (by omega), ← HK.out, HXX.out]
          · rw [if_neg e]
            by_cases e2 : i < j
            · rw [if_pos e2, if_pos (by omega)]
            · rw [if_neg e2, if_neg (by omega)]
        case measure => simp [intOf]; omega
      · have e : j = Xl.length := by omega
        subst e
        go_wp2
        go_ret
        refine ⟨rfl, HT.out, Or.inr ⟨b, off, cap, c, fun i => mkRm (k + (posRm Xl i : Int)) (X i), by rw [mkRms_len], ?_, by rw [mkRms_len]; exact HM.out, by rw [mkRms_len]; exact HC.out, fun i h => ?_, ?_⟩⟩
        · intro e
          have := congrArg List.length e
          rw [mkRms_len] at this
          exact HNE.out (List.length_eq_zero_iff.1 (by simpa using this))
        · have h' : i < Xl.length := by rw [mkRms_len] at h; exact h
          rw [mkRms_get _ _ _ _ h', ← HX.out i h']
        · rw [mkRms_len]
          exact HR.out.to (fun i hi' => by rw [if_pos hi'])
end Go.Proofs.YtlednecohppljaaGreat
namespace Go.Proofs.YtlednecohppljaaGreat
open Go.RowKit Go.Deep

/-! spec.l22Numbers -/
def nokB (of : Int) (L : List Int) (i : Nat) : Bool := inB 1 of (L.getD i 0) && !(decide (0 < (i : Int)) && decide (L.getD i 0 ≤ L.getD (i - 1) 0))
def numsB (of : Int) (L : List Int) : Bool := (List.range L.length).all (nokB of L)

set_option maxRecDepth 20000 in
set_option maxHeartbeats 8000000 in
theorem l22Numbers_any (lo : Nat) (v : Value) (L : List Int) (of : Int) (w : World) (hv : RisAt lo w v L) :
    Calls Tryz.prog 65 #[v, .int .i64 of] w fun e w' => e = .returned (.bool (numsB of L)) ∧ Below w.heap.size w w' := by
  have HV := hide hv
  have hm := hv.max
  unfold maxLen at hm
  obtain ⟨a, cap, rfl⟩ := hv.form
  clear hv
  have HE1 : Hid (numsB of L = (List.range L.length).all (nokB of L)) := rfl
  go_enter Tryz.func65, Tryz.ntmps65
  go_wp2
  go_loopw [5] (fun i wr => ∃ k : Nat, i = .int .i64 k ∧ k ≤ L.length ∧ Below w.heap.size w wr ∧ ∀ j, j < k → nokB of L j = true) (fun i _ => L.length - (intOf i).toNat)
  case atStart => exact ⟨0, rfl, by omega, Below.refl _ _, fun j h => by omega⟩
  case round =>
    obtain ⟨k, rfl, hk, hb, hall⟩ := hrel
    have HAL := hide hall
    have HBr := hide hb
    clear hall hb
    by_cases hlt : k < L.length
    · obtain ⟨b, off, rfl, hbw, -, hc⟩ := HV.out.full' (by omega)
      obtain ⟨x, hx⟩ : ∃ x, x = L[k] := ⟨_, rfl⟩
      obtain ⟨p, hp⟩ : ∃ p, p = L.getD (k - 1) 0 := ⟨_, rfl⟩
      have hgx : L.getD k 0 = x := by rw [hx, List.getD_eq_getElem?_getD, List.getElem?_eq_getElem hlt]; rfl
      have HDK : Hid (nokB of L k = (inB 1 of x && !(decide (0 < (k : Int)) && decide (x ≤ p)))) := by unfold Hid nokB; rw [hgx, ← hp]
      have HC : Hid (wr.cell? ⟨b, off + k, none⟩ = some (.int .i64 x)) := by unfold Hid; rw [HBr.out.cell (p := ⟨b, off + k, none⟩) hbw, hx]; exact (hc k hlt).2
      have HP : Hid (0 < k → wr.cell? ⟨b, off + (k - 1), none⟩ = some (.int .i64 p)) := by
        unfold Hid
        intro hk0
        rw [HBr.out.cell (p := ⟨b, off + (k - 1), none⟩) hbw, hp, List.getD_eq_getElem?_getD, List.getElem?_eq_getElem (by omega)]
        exact (hc (k - 1) (by omega)).2
      clear hc hx hp hgx
      go_wp2
      go_cut [34] (fun c wc => c = .bool (!(nokB of L k)) ∧ Below wr.heap.size wr wc)
      case first =>
        have xn : Nonempty (In (Up wr)) := ⟨⟨wr, Below.refl _ _⟩⟩
        have xs := fun (X : In (Up wr)) => in_self X
        have s0 : ∀ X : In (Up wr), _ := fun X => Up.cell X HC.out
        have i0 : (0 : Int) ≤ (k : Int) := by omega
        have i1 : (k : Int) < (L.length : Int) := by omega
        refine wp_region_class (Up wr) (by kernel_rfl) (by kernel_rfl) ((Below.refl _ _).drew) ?_
        cases q1 : inB 1 of x with
        | false =>
          repeat (go_big_quiet_step ((go_at_call 62; rename_i Y; exact (in21_any _ _ _ _).mono fun _ _ h => ⟨h.1, Up.next Y (by rw [h.2]; exact Below.refl _ _)⟩)))
          refine wpQuiet_nil ?_
          intro wn hw
          obtain ⟨X, hX⟩ := hw
          have HWN : Below wr.heap.size wr wn := by rw [hX]; exact X.h
          clear hX X s0 xs xn
          go_wp2
          go_meet
          exact ⟨congrArg Value.bool (by rw [HDK.out, q1]; rfl), HWN⟩
        | true =>
          by_cases q2 : 0 < k
          · have d2 : decide (0 < (k : Int)) = true := by simp; omega
            have s1 : ∀ X : In (Up wr), _ := fun X => Up.cell X (HP.out q2)
            have j0 : (0 : Int) ≤ (k : Int) - 1 := by omega
            have j1 : (k : Int) - 1 < (L.length : Int) := by omega
            have jn : ((k : Int) - 1).toNat = k - 1 := by omega
            cases q3 : decide (x ≤ p) with
            | true =>
              repeat (go_big_quiet_step ((go_at_call 62; rename_i Y; exact (in21_any _ _ _ _).mono fun _ _ h => ⟨h.1, Up.next Y (by rw [h.2]; exact Below.refl _ _)⟩)))
              refine wpQuiet_nil ?_
              intro wn hw
              obtain ⟨X, hX⟩ := hw
              have HWN : Below wr.heap.size wr wn := by rw [hX]; exact X.h
              clear hX X s0 s1 xs xn
              go_wp2
              go_meet
              exact ⟨congrArg Value.bool (by rw [HDK.out, q1, d2, q3]; rfl), HWN⟩
            | false =>
              repeat (go_big_quiet_step ((go_at_call 62; rename_i Y; exact (in21_any _ _ _ _).mono fun _ _ h => ⟨h.1, Up.next Y (by rw [h.2]; exact Below.refl _ _)⟩)))
              refine wpQuiet_nil ?_
              intro wn hw
              obtain ⟨X, hX⟩ := hw
              have HWN : Below wr.heap.size wr wn := by rw [hX]; exact X.h
              clear hX X s0 s1 xs xn
              go_wp2
              go_meet
              exact ⟨congrArg Value.bool (by rw [HDK.out, q1, d2, q3]; rfl), HWN⟩
          · have d2 : decide (0 < (k : Int)) = false := by simp; omega
            repeat (go_big_quiet_step ((go_at_call 62; rename_i Y; exact (in21_any _ _ _ _).mono fun _ _ h => ⟨h.1, Up.next Y (by rw [h.2]; exact Below.refl _ _)⟩)))
            refine wpQuiet_nil ?_
            intro wn hw
            obtain ⟨X, hX⟩ := hw
            have HWN : Below wr.heap.size wr wn := by rw [hX]; exact X.h
            clear hX X s0 xs xn
            go_wp2
            go_meet
            exact ⟨congrArg Value.bool (by rw [HDK.out, q1, d2]; rfl), HWN⟩
      case rest =>
      obtain ⟨rfl, hbc⟩ := hcut
      have HBc : Hid (Below w.heap.size w wc) := bt HBr.out hbc
      clear hbc
      cases h7 : nokB of L k with
      | false =>
        have HNo : Hid (numsB of L = false) := by unfold Hid; rw [HE1.out]; exact range_not hlt h7
        go_wp2
        go_ret
        exact ⟨ret_bool HNo.out.symm, HBc.out⟩
      | true =>
        have HT := hide h7
        go_wp2
        go_roundw
        case rel => exact ⟨k + 1, by go_num, by omega, HBc.out, fun j hj => by
                      by_cases e : j = k
                      · rw [e]; exact HT.out
                      · exact HAL.out j (by omega)⟩
        case measure => simp [intOf]; omega
    · have HE2 : Hid (numsB of L = true) := by unfold Hid; rw [HE1.out]; exact range_all (fun i hi => HAL.out i (by omega))
      go_wp2
      go_ret
      exact ⟨ret_bool HE2.out.symm, HBr.out⟩
end Go.Proofs.YtlednecohppljaaGreat
