import Derived.Test.YtfbfgljkiikabaaGreatV10
namespace Go.Proofs.YtfbfgljkiikabaaGreat
open Go.RowKit Go.Deep

theorem markRss_two (lo hi : Nat) (v : Value) (Xl : List Rs) (k : Int) (w : World) (hv : RssOwn lo hi w v Xl) (hn : RssSmall Xl) (h0 : 0 ≤ k) (hk : k ≤ 2000000000000000000) :
    Calls Tryz.prog 53 #[v, .int .i64 k] w fun e w' => e = .returned (.int .i64 (k + 2 * (Xl.length : Int))) ∧ Touch lo hi w w' ∧ RssOwn lo hi w' v (mkRss k Xl) := by
  have := markRss_any lo hi v Xl k w hv hn h0 hk
  rw [posRs_all2] at this
  simpa using this

set_option maxRecDepth 20000 in
set_option maxHeartbeats 8000000 in
theorem markRms_any (lo hi : Nat) (v : Value) (Xl : List Rm) (k : Int) (w : World) (hv : RmsOwn lo hi w v Xl) (hn : RmsSmall Xl) (h0 : 0 ≤ k) (hk : k ≤ 1900000000000000000) :
    Calls Tryz.prog 22 #[v, .int .i64 k] w fun e w' => e = .returned (.int .i64 (k + (posRm Xl Xl.length : Int))) ∧ Touch lo hi w w' ∧ RmsOwn lo hi w' v (mkRms k Xl) := by
  rcases hv with ⟨a, cap, rfl, rfl⟩ | ⟨b, off, cap, c, X, rfl, hne, hm, hcap, hX, hR⟩
  · go_enter Tryz.func22, Tryz.ntmps22
    go_wp2
    go_loop [5, 1] (fun i q => i = .int .i64 0 ∧ q = .int .i64 k) (fun _ _ => 0)
    case atStart => exact ⟨rfl, rfl⟩
    case round =>
      obtain ⟨rfl, rfl⟩ := hrel
      go_wp2
      go_ret
      exact ⟨by simp [posRm], Touch.refl _ _ _, Or.inl ⟨_, _, rfl, rfl⟩⟩
  · have hlen := hn.1
    have HN := hide hn
    have HX := hide hX
    have HR0 := hide hR
    have HM := hide hm
    have HC := hide hcap
    have HNE := hide hne
    clear hn hX hR hm hcap hne
    go_enter Tryz.func22, Tryz.ntmps22
    go_wp2
    go_loopw [5, 1] (fun i q wr => ∃ j : Nat, i = .int .i64 j ∧ q = .int .i64 (k + (posRm Xl j : Int)) ∧ j ≤ Xl.length ∧ Touch lo hi w wr ∧ RmRow lo hi wr b off Xl.length c (fun i => if i < j then mkRm (k + (posRm Xl i : Int)) (X i) else X i)) (fun i _ _ => Xl.length - (intOf i).toNat)
    case atStart => exact ⟨0, rfl, by simp [posRm], by omega, Touch.refl _ _ _, HR0.out.to (fun i _ => by simp)⟩
    case round =>
      obtain ⟨j, rfl, rfl, hj, ht, hr⟩ := hrel
      have HT := hide ht
      have HR := hide hr
      clear ht hr HR0
      by_cases hlt : j < Xl.length
      · have hpos := posRm_le HN.out (i := j) (by omega)
        have HP := hide (posRm_succ hlt)
        have hone : RmOne b (off + j * 8) (c j).1 (c j).2 wr (X j) := by
          have := HR.out.row j hlt
          simp only [Nat.lt_irrefl, if_false] at this
          exact this
        have hxj : X j = Xl[j] := HX.out j hlt
        obtain ⟨x, hx⟩ : ∃ x, x = X j := ⟨_, rfl⟩
        rw [← hx] at hone
        obtain ⟨hs, vv0, q0, hc, l0⟩ := hone
        have hs0 : RssSmall x.sl := by rw [hx, hxj]; exact HN.out.2 j hlt
        have hs0n := hs0.1
        have HXJ := hide hxj
        have HXX := hide hx
        obtain ⟨K, hK⟩ : ∃ K, K = k + (posRm Xl j : Int) := ⟨_, rfl⟩
        rw [← hK]
        have hK0 : 0 ≤ K := by omega
        have hK1 : K ≤ 1950000000000000000 := by omega
        have HK := hide hK
        have HBC : Hid (b < (c j).1 ∨ (c j).2 ≤ b) := (HR.out.seg j hlt).2.2
        have HS : Hid (RmSt wr b (off + j * 8) (c j).1 (c j).2 vv0 wr x) := ⟨Near.refl _ _ _ _ _ _, HBC.out, q0, hc, l0, HR.out.frz, HR.out.lt⟩
        clear hpos hxj hx hs hc l0 q0 hK
        obtain ⟨d0, d1, d2, d3, d4, d5, d6, d7⟩ := HS.out.cells
        have fz := HS.out.frz
        go_wp2_with fail
        clear d0 d1 d2 d3 d4 d5 d6 d7 fz
        obtain ⟨v1, hv1, HS1⟩ : ∃ v', v' = ((((((wr.setCell ⟨b, off + j * 8, none⟩ (.int .i64 (K))).setCell ⟨b, off + j * 8 + 1, none⟩ (.int .i64 (K + 1))).setCell ⟨b, off + j * 8 + 2, none⟩ (.int .i64 (K + 1 + 1))).setCell ⟨b, off + j * 8 + 3, none⟩ (.int .i64 (K + 1 + 1 + 1))).setCell ⟨b, off + j * 8 + 4, none⟩ (.int .i64 (K + 1 + 1 + 1 + 1))).setCell ⟨b, off + j * 8 + 5, none⟩ (.int .i64 (K + 1 + 1 + 1 + 1 + 1))) ∧ Hid (RmSt wr b (off + j * 8) (c j).1 (c j).2 vv0 v' ⟨K, K + 1, K + 1 + 1, K + 1 + 1 + 1, K + 1 + 1 + 1 + 1, K + 1 + 1 + 1 + 1 + 1, x.tx, x.sl⟩) := ⟨_, rfl, ((((((HS.out.s0 (K)).s1 (K + 1)).s2 (K + 1 + 1)).s3 (K + 1 + 1 + 1)).s4 (K + 1 + 1 + 1 + 1)).s5 (K + 1 + 1 + 1 + 1 + 1))⟩
        rw [← hv1]
        clear hv1 HS
        refine (markText_any _ _ (by omega)).mono ?_
        rintro e v2 ⟨rfl, hb⟩
        have HS2 := hide (HS1.out.below hb)
        clear hb HS1
        obtain ⟨d0, d1, d2, d3, d4, d5, d6, d7⟩ := HS2.out.cells
        have fz := HS2.out.frz
        go_wp2_with fail
        clear d0 d1 d2 d3 d4 d5 d6 d7 fz
        obtain ⟨v3, hv3, HS3⟩ : ∃ v', v' = (v2.setCell ⟨b, off + j * 8 + 6, none⟩ (.string (mtB (K + 1 + 1 + 1 + 1 + 1 + 1)))) ∧ Hid (RmSt wr b (off + j * 8) (c j).1 (c j).2 vv0 v' ⟨K, K + 1, K + 1 + 1, K + 1 + 1 + 1, K + 1 + 1 + 1 + 1, K + 1 + 1 + 1 + 1 + 1, mtB (K + 1 + 1 + 1 + 1 + 1 + 1), x.sl⟩) := ⟨_, rfl, (HS2.out.s6 (mtB (K + 1 + 1 + 1 + 1 + 1 + 1)))⟩
        rw [← hv3]
        clear hv3 HS2
        refine (markRss_two _ _ _ x.sl _ _ HS3.out.l0 hs0 (by omega) (by omega)).mono ?_
        rintro e v4 ⟨rfl, ht, hl⟩
        have HS4 : Hid (RmSt wr b (off + j * 8) (c j).1 (c j).2 vv0 v4 ⟨K, K + 1, K + 1 + 1, K + 1 + 1 + 1, K + 1 + 1 + 1 + 1, K + 1 + 1 + 1 + 1 + 1, mtB (K + 1 + 1 + 1 + 1 + 1 + 1), mkRss (K + 1 + 1 + 1 + 1 + 1 + 1 + 1) x.sl⟩) := HS3.out.m0' ht hl
        clear ht hl HS3
        obtain ⟨d0, d1, d2, d3, d4, d5, d6, d7⟩ := HS4.out.cells
        have fz := HS4.out.frz
        go_wp2
        clear d0 d1 d2 d3 d4 d5 d6 d7 fz
        have HW : Hid (wdRm Xl[j] = 7 + 2 * x.sl.length) := by unfold Hid; rw [← HXJ.out, ← HXX.out]; rfl
        have HQ : Hid ((K + 1 + 1 + 1 + 1 + 1 + 1 + 1 + 2 * (x.sl.length : Int) : Int) = k + (posRm Xl (j + 1) : Int)) := by
          have h1 := HP.out
          have h2 := HW.out
          have h3 := HK.out
          unfold Hid
          omega
        have HRN := hide (HR.out.near hlt HS4.out.near (show RmOne b (off + j * 8) (c j).1 (c j).2 v4 (mkRm K x) from ⟨⟨mt_size _ (by omega)⟩, _, HS4.out.q0, HS4.out.cells, HS4.out.l0⟩))
        have HTN := hide (HS4.out.near.wide HR.out.lt (lo' := lo) (hi' := hi) (HR.out.seg j hlt).1 (HR.out.seg j hlt).2.1 ⟨HR.out.low, HR.out.bh⟩)
        go_roundw
        case rel =>
          refine ⟨j + 1, by go_num, congrArg (Value.int .i64) HQ.out, by omega, HT.out.trans HTN.out, HRN.out.to (fun i hi' => ?_)⟩
          by_cases e : i = j
          · subst e
            rw [if_pos rfl, if_pos (by omega), ← HK.out, HXX.out]
          · rw [if_neg e]
            by_cases e2 : i < j
            · rw [if_pos e2, if_pos (by omega)]
            · rw [if_neg e2, if_neg (by omega)]
        case measure => simp [intOf]; omega
      · have e : j = Xl.length := by omega
        subst e
        go_wp2
        go_ret
        refine ⟨rfl, HT.out, Or.inr ⟨b, off, cap, c, fun i => mkRm (k + (posRm Xl i : Int)) (X i), by rw [mkRms_len], ?_, by rw [mkRms_len]; exact HM.out, by rw [mkRms_len]; exact HC.out, fun i h => ?_, ?_⟩⟩
        · intro e
          have := congrArg List.length e
          rw [mkRms_len] at this
          exact HNE.out (List.length_eq_zero_iff.1 (by simpa using this))
        · have h' : i < Xl.length := by rw [mkRms_len] at h; exact h
          rw [mkRms_get _ _ _ _ h', ← HX.out i h']
        · rw [mkRms_len]
          exact HR.out.to (fun i hi' => by rw [if_pos hi'])
end Go.Proofs.YtfbfgljkiikabaaGreat
