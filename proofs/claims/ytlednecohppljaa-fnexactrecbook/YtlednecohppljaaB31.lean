import Derived.Test.YtlednecohppljaaB30
namespace Go.Proofs.Ytlednecohppljaa
open Go.RowKit Go.Deep

set_option maxRecDepth 20000 in
set_option maxHeartbeats 8000000 in
theorem markRss_any (lo hi : Nat) (v : Value) (Xl : List Rs) (k : Int) (w : World) (hv : RssOwn lo hi w v Xl) (hn : RssSmall Xl) (h0 : 0 ≤ k) (hk : k ≤ 2000000000000000000) :
    Calls Try.prog 10 #[v, .int .i64 k] w fun e w' => e = .returned (.int .i64 (k + (posRs Xl Xl.length : Int))) ∧ Touch lo hi w w' ∧ RssOwn lo hi w' v (mkRss k Xl) := by
  rcases hv with ⟨a, cap, rfl, rfl⟩ | ⟨b, off, cap, c, X, rfl, hne, hm, hcap, hX, hR⟩
  · go_enter Try.func10, Try.ntmps10
    go_wp2
    go_loop [5, 1] (fun i q => i = .int .i64 0 ∧ q = .int .i64 k) (fun _ _ => 0)
    case atStart => exact ⟨rfl, rfl⟩
    case round =>
      obtain ⟨rfl, rfl⟩ := hrel
      go_wp2
      go_ret
      exact ⟨by simp [posRs], Touch.refl _ _ _, Or.inl ⟨_, _, rfl, rfl⟩⟩
  · have hlen := hn.1
    have HN := hide hn
    have HX := hide hX
    have HR0 := hide hR
    have HM := hide hm
    have HC := hide hcap
    have HNE := hide hne
    clear hn hX hR hm hcap hne
    go_enter Try.func10, Try.ntmps10
    go_wp2
    go_loopw [5, 1] (fun i q wr => ∃ j : Nat, i = .int .i64 j ∧ q = .int .i64 (k + (posRs Xl j : Int)) ∧ j ≤ Xl.length ∧ Touch lo hi w wr ∧ RsRow lo hi wr b off Xl.length c (fun i => if i < j then mkRs (k + (posRs Xl i : Int)) (X i) else X i)) (fun i _ _ => Xl.length - (intOf i).toNat)
    case atStart => exact ⟨0, rfl, by simp [posRs], by omega, Touch.refl _ _ _, HR0.out.to (fun i _ => by simp)⟩
    case round =>
      obtain ⟨j, rfl, rfl, hj, ht, hr⟩ := hrel
      have HT := hide ht
      have HR := hide hr
      clear ht hr HR0
      by_cases hlt : j < Xl.length
      · have hpos := posRs_le HN.out (i := j) (by omega)
        have HP := hide (posRs_succ hlt)
        have hone : RsOne b (off + j * 2) (c j) (c (j + 1)) wr (X j) := by
          have := HR.out.row j hlt
          simp only [Nat.lt_irrefl, if_false] at this
          exact this
        have hxj : X j = Xl[j] := HX.out j hlt
        obtain ⟨x, hx⟩ : ∃ x, x = X j := ⟨_, rfl⟩
        rw [← hx] at hone
        obtain ⟨hs, hc⟩ := hone
        have HXJ := hide hxj
        have HXX := hide hx
        obtain ⟨K, hK⟩ : ∃ K, K = k + (posRs Xl j : Int) := ⟨_, rfl⟩
        rw [← hK]
        have hK0 : 0 ≤ K := by omega
        have hK1 : K ≤ 2500000000000000000 := by omega
        have HK := hide hK
        have HBC : Hid (b < c j) := Nat.lt_of_lt_of_le HR.out.bc (HR.out.le (Nat.zero_le _) (by omega))
        have HS : Hid (RsSt wr b (off + j * 2) (c j) (c (j + 1)) wr x) := ⟨Near.refl _ _ _ _ _ _, HBC.out, hc, HR.out.frz, HR.out.lt⟩
        clear hpos hxj hx hs hc hK
        obtain ⟨d0, d1⟩ := HS.out.cells
        have fz := HS.out.frz
        go_wp2_with fail
        clear d0 d1 fz
        obtain ⟨v1, hv1, HS1⟩ : ∃ v', v' = (wr.setCell ⟨b, off + j * 2, none⟩ (.int .i64 (K))) ∧ Hid (RsSt wr b (off + j * 2) (c j) (c (j + 1)) v' ⟨K, x.tx⟩) := ⟨_, rfl, (HS.out.s0 (K))⟩
        rw [← hv1]
        clear hv1 HS
        refine (markText_any _ _ (by omega)).mono ?_
        rintro e v2 ⟨rfl, hb⟩
        have HS2 := hide (HS1.out.below hb)
        clear hb HS1
        obtain ⟨d0, d1⟩ := HS2.out.cells
        have fz := HS2.out.frz
        go_wp2
        clear d0 d1 fz
        obtain ⟨v3, hv3, HS3⟩ : ∃ v', v' = (v2.setCell ⟨b, off + j * 2 + 1, none⟩ (.string (mtB (K + 1)))) ∧ Hid (RsSt wr b (off + j * 2) (c j) (c (j + 1)) v' ⟨K, mtB (K + 1)⟩) := ⟨_, rfl, (HS2.out.s1 (mtB (K + 1)))⟩
        rw [← hv3]
        clear hv3 HS2
        have HW : Hid (wdRs Xl[j] = 2) := by unfold Hid; rw [← HXJ.out, ← HXX.out]; rfl
        have HQ : Hid ((K + 1 + 1 : Int) = k + (posRs Xl (j + 1) : Int)) := by
          have h1 := HP.out
          have h2 := HW.out
          have h3 := HK.out
          unfold Hid
          omega
        have HRN := hide (HR.out.near hlt HS3.out.near (show RsOne b (off + j * 2) (c j) (c (j + 1)) v3 (mkRs K x) from ⟨⟨mt_size _ (by omega)⟩, HS3.out.cells⟩))
        have HTN := hide (HS3.out.near.wide HR.out.lt (lo' := lo) (hi' := hi) (by have := HBC.out; have := HR.out.low; omega) (Nat.le_trans (HR.out.le (by omega) (Nat.le_refl _)) HR.out.top) ⟨HR.out.low, HR.out.bh⟩)
        go_roundw
        case rel =>
          refine ⟨j + 1, by go_num, congrArg (Value.int .i64) HQ.out, by omega, HT.out.trans HTN.out, HRN.out.to (fun i hi' => ?_)⟩
          by_cases e : i = j
          · subst e
            rw [if_pos rfl, if_pos (by omega), ← HK.out, HXX.out]
          · rw [if_neg e]
            by_cases e2 : i < j
            · rw [if_pos e2, if_pos (by omega)]
            · rw [if_neg e2, if_neg (by omega)]
        case measure => simp [intOf]; omega
      · have e : j = Xl.length := by omega
        subst e
        go_wp2
        go_ret
        refine ⟨rfl, HT.out, Or.inr ⟨b, off, cap, c, fun i => mkRs (k + (posRs Xl i : Int)) (X i), by rw [mkRss_len], ?_, by rw [mkRss_len]; exact HM.out, by rw [mkRss_len]; exact HC.out, fun i h => ?_, ?_⟩⟩
        · intro e
          have := congrArg List.length e
          rw [mkRss_len] at this
          exact HNE.out (List.length_eq_zero_iff.1 (by simpa using this))
        · have h' : i < Xl.length := by rw [mkRss_len] at h; exact h
          rw [mkRss_get _ _ _ _ h', ← HX.out i h']
        · rw [mkRss_len]
          exact HR.out.to (fun i hi' => by rw [if_pos hi'])
end Go.Proofs.Ytlednecohppljaa
namespace Go.Proofs.Ytlednecohppljaa
open Go.RowKit Go.Deep

/-! impl.RecMessageOk -/
set_option maxRecDepth 20000 in
set_option maxHeartbeats 8000000 in
theorem implMsg_any (lo : Nat) (cs : List Value) (M : Rm) (of : Int) (w : World) (h : RmC lo w cs M) :
    Calls Try.prog 77 #[.agg cs.toArray, .int .i64 of] w fun e w' => e = .returned (.bool (msgB M of)) ∧ Below w.heap.size w w' := by
  obtain ⟨a0, k0, rfl, h⟩ := h
  show Calls Try.prog 77 #[.agg #[.int .i64 M.kd, .int .i64 M.fr, .int .i64 M.tt, .int .i64 M.ba, .int .i64 M.ix, .int .i64 M.kn, .string M.tx, .slice a0 M.sl.length k0], .int .i64 of] w _
  have HK := hide h
  have hs := h.s0
  unfold maxLen at hs
  clear h
  have HI : Hid (msgB M of = (inB 1 9 M.kd && (inB 1 of M.fr && (inB 1 of M.tt && (inB 0 1000000 M.ba && (inB 0 120 M.ix && (inB 0 120 M.kn && (decide ((M.tx.size : Int) ≤ 160) && (slotsB M.sl))))))))) := by
    unfold Hid msgB
    have : decide (M.tx.size ≤ 160) = decide ((M.tx.size : Int) ≤ 160) := by rw [decide_eq_decide]; omega
    rw [this]
  have HO : ∀ o, Hid (Below w.heap.size w (w.alloc o)) := fun o => one_al w o
  go_enter Try.func77, Try.ntmps77
  cases h0 : inB 1 9 M.kd with
  | false =>
    have HE : Hid (msgB M of = false) := by unfold Hid; rw [HI.out, h0]; rfl
    go_wp2_with (first
      | (go_at_call 67; refine (within_any _ _ _ _).mono ?_; rintro e w' ⟨rfl, rfl⟩)
      | (go_at_call 69; refine (slotsI_any lo _ M.sl _ (HK.out.below (HO _).out).l0).mono ?_; rintro e w1 ⟨rfl, hb1⟩; have HB1 := hide hb1; clear hb1))
    go_ret
    exact ⟨ret_bool HE.out.symm, (HO _).out⟩
  | true =>
  cases h1 : inB 1 of M.fr with
  | false =>
    have HE : Hid (msgB M of = false) := by unfold Hid; rw [HI.out, h0, h1]; rfl
    go_wp2_with (first
      | (go_at_call 67; refine (within_any _ _ _ _).mono ?_; rintro e w' ⟨rfl, rfl⟩)
      | (go_at_call 69; refine (slotsI_any lo _ M.sl _ (HK.out.below (HO _).out).l0).mono ?_; rintro e w1 ⟨rfl, hb1⟩; have HB1 := hide hb1; clear hb1))
    go_ret
    exact ⟨ret_bool HE.out.symm, (HO _).out⟩
  | true =>
  cases h2 : inB 1 of M.tt with
  | false =>
    have HE : Hid (msgB M of = false) := by unfold Hid; rw [HI.out, h0, h1, h2]; rfl
    go_wp2_with (first
      | (go_at_call 67; refine (within_any _ _ _ _).mono ?_; rintro e w' ⟨rfl, rfl⟩)
      | (go_at_call 69; refine (slotsI_any lo _ M.sl _ (HK.out.below (HO _).out).l0).mono ?_; rintro e w1 ⟨rfl, hb1⟩; have HB1 := hide hb1; clear hb1))
    go_ret
    exact ⟨ret_bool HE.out.symm, (HO _).out⟩
  | true =>
  cases h3 : inB 0 1000000 M.ba with
  | false =>
    have HE : Hid (msgB M of = false) := by unfold Hid; rw [HI.out, h0, h1, h2, h3]; rfl
    go_wp2_with (first
      | (go_at_call 67; refine (within_any _ _ _ _).mono ?_; rintro e w' ⟨rfl, rfl⟩)
      | (go_at_call 69; refine (slotsI_any lo _ M.sl _ (HK.out.below (HO _).out).l0).mono ?_; rintro e w1 ⟨rfl, hb1⟩; have HB1 := hide hb1; clear hb1))
    go_ret
    exact ⟨ret_bool HE.out.symm, (HO _).out⟩
  | true =>
  cases h4 : inB 0 120 M.ix with
  | false =>
    have HE : Hid (msgB M of = false) := by unfold Hid; rw [HI.out, h0, h1, h2, h3, h4]; rfl
    go_wp2_with (first
      | (go_at_call 67; refine (within_any _ _ _ _).mono ?_; rintro e w' ⟨rfl, rfl⟩)
      | (go_at_call 69; refine (slotsI_any lo _ M.sl _ (HK.out.below (HO _).out).l0).mono ?_; rintro e w1 ⟨rfl, hb1⟩; have HB1 := hide hb1; clear hb1))
    go_ret
    exact ⟨ret_bool HE.out.symm, (HO _).out⟩
  | true =>
  cases h5 : inB 0 120 M.kn with
  | false =>
    have HE : Hid (msgB M of = false) := by unfold Hid; rw [HI.out, h0, h1, h2, h3, h4, h5]; rfl
    go_wp2_with (first
      | (go_at_call 67; refine (within_any _ _ _ _).mono ?_; rintro e w' ⟨rfl, rfl⟩)
      | (go_at_call 69; refine (slotsI_any lo _ M.sl _ (HK.out.below (HO _).out).l0).mono ?_; rintro e w1 ⟨rfl, hb1⟩; have HB1 := hide hb1; clear hb1))
    go_ret
    exact ⟨ret_bool HE.out.symm, (HO _).out⟩
  | true =>
  cases h6 : decide ((M.tx.size : Int) ≤ 160) with
  | false =>
    have HE : Hid (msgB M of = false) := by unfold Hid; rw [HI.out, h0, h1, h2, h3, h4, h5, h6]; rfl
    go_wp2_with (first
      | (go_at_call 67; refine (within_any _ _ _ _).mono ?_; rintro e w' ⟨rfl, rfl⟩)
      | (go_at_call 69; refine (slotsI_any lo _ M.sl _ (HK.out.below (HO _).out).l0).mono ?_; rintro e w1 ⟨rfl, hb1⟩; have HB1 := hide hb1; clear hb1))
    go_ret
    exact ⟨ret_bool HE.out.symm, (HO _).out⟩
  | true =>
  have HE : Hid (msgB M of = slotsB M.sl) := by unfold Hid; rw [HI.out, h0, h1, h2, h3, h4, h5, h6]; rfl
  go_wp2_with (first
    | (go_at_call 67; refine (within_any _ _ _ _).mono ?_; rintro e w' ⟨rfl, rfl⟩)
    | (go_at_call 69; refine (slotsI_any lo _ M.sl _ (HK.out.below (HO _).out).l0).mono ?_; rintro e w1 ⟨rfl, hb1⟩; have HB1 := hide hb1; clear hb1))
  go_ret
  exact ⟨ret_bool HE.out.symm, bt (HO _).out HB1.out⟩
end Go.Proofs.Ytlednecohppljaa
