import Derived.Test.YtpdlcccnlciecaaGreatV06
import Derived.Test.YtpdlcccnlciecaaGreatV07
namespace Go.Proofs.YtpdlcccnlciecaaGreat
open Go.RowKit Go.Deep

set_option maxRecDepth 20000 in
set_option maxHeartbeats 8000000 in
theorem markEns_any (lo hi : Nat) (v : Value) (Xl : List En) (k : Int) (w : World) (hv : EnsOwn lo hi w v Xl) (hn : EnsSmall Xl) (h0 : 0 ≤ k) (hk : k ≤ 2000000000000000000) :
    Calls Tryz.prog 32 #[v, .int .i64 k] w fun e w' => e = .returned (.int .i64 (k + (posEn Xl Xl.length : Int))) ∧ Touch lo hi w w' ∧ EnsOwn lo hi w' v (mkEns k Xl) := by
  rcases hv with ⟨a, cap, rfl, rfl⟩ | ⟨b, off, cap, c, X, rfl, hne, hm, hcap, hX, hR⟩
  · go_enter Tryz.func32, Tryz.ntmps32
    go_wp2
    go_loop [5, 1] (fun i q => i = .int .i64 0 ∧ q = .int .i64 k) (fun _ _ => 0)
    case atStart => exact ⟨rfl, rfl⟩
    case round =>
      obtain ⟨rfl, rfl⟩ := hrel
      go_wp2
      go_ret
      exact ⟨by simp [posEn], Touch.refl _ _ _, Or.inl ⟨_, _, rfl, rfl⟩⟩
  · have hlen := hn.1
    have HN := hide hn
    have HX := hide hX
    have HR0 := hide hR
    have HM := hide hm
    have HC := hide hcap
    have HNE := hide hne
    clear hn hX hR hm hcap hne
    go_enter Tryz.func32, Tryz.ntmps32
    go_wp2
    go_loopw [5, 1] (fun i q wr => ∃ j : Nat, i = .int .i64 j ∧ q = .int .i64 (k + (posEn Xl j : Int)) ∧ j ≤ Xl.length ∧ Touch lo hi w wr ∧ EnRow lo hi wr b off Xl.length c (fun i => if i < j then mkEn (k + (posEn Xl i : Int)) (X i) else X i)) (fun i _ _ => Xl.length - (intOf i).toNat)
    case atStart => exact ⟨0, rfl, by simp [posEn], by omega, Touch.refl _ _ _, HR0.out.to (fun i _ => by simp)⟩
    case round =>
      obtain ⟨j, rfl, rfl, hj, ht, hr⟩ := hrel
      have HT := hide ht
      have HR := hide hr
      clear ht hr HR0
      by_cases hlt : j < Xl.length
      · have hpos := posEn_le HN.out (i := j) (by omega)
        have HP := hide (posEn_succ hlt)
        have hone : EnOne b (off + j * 2) (c j) (c (j + 1)) wr (X j) := by
          have := HR.out.row j hlt
          simp only [Nat.lt_irrefl, if_false] at this
          exact this
        have hxj : X j = Xl[j] := HX.out j hlt
        obtain ⟨x, hx⟩ : ∃ x, x = X j := ⟨_, rfl⟩
        rw [← hx] at hone
        obtain ⟨hs, hc⟩ := hone
        have HXJ := hide hxj
        have HXX := hide hx
        obtain ⟨K, hK⟩ : ∃ K, K = k + (posEn Xl j : Int) := ⟨_, rfl⟩
        rw [← hK]
        have hK0 : 0 ≤ K := by omega
        have hK1 : K ≤ 2500000000000000000 := by omega
        have HK := hide hK
        have HBC : Hid (b < c j) := Nat.lt_of_lt_of_le HR.out.bc (HR.out.le (Nat.zero_le _) (by omega))
        have HS : Hid (EnSt wr b (off + j * 2) (c j) (c (j + 1)) wr x) := ⟨Near.refl _ _ _ _ _ _, HBC.out, hc, HR.out.frz, HR.out.lt⟩
        clear hpos hxj hx hs hc hK
        obtain ⟨d0, d1⟩ := HS.out.cells
        have fz := HS.out.frz
        go_wp2
        clear d0 d1 fz
        obtain ⟨v1, hv1, HS1⟩ : ∃ v', v' = ((wr.setCell ⟨b, off + j * 2, none⟩ (.int .i64 (K))).setCell ⟨b, off + j * 2 + 1, none⟩ (.int .i64 (K + 1))) ∧ Hid (EnSt wr b (off + j * 2) (c j) (c (j + 1)) v' ⟨K, K + 1⟩) := ⟨_, rfl, ((HS.out.s0 (K)).s1 (K + 1))⟩
        rw [← hv1]
        clear hv1 HS
        have HW : Hid (wdEn Xl[j] = 2) := by unfold Hid; rw [← HXJ.out, ← HXX.out]; rfl
        have HQ : Hid ((K + 1 + 1 : Int) = k + (posEn Xl (j + 1) : Int)) := by
          have h1 := HP.out
          have h2 := HW.out
          have h3 := HK.out
          unfold Hid
          omega
        have HRN := hide (HR.out.near hlt HS1.out.near (show EnOne b (off + j * 2) (c j) (c (j + 1)) v1 (mkEn K x) from ⟨⟨trivial⟩, HS1.out.cells⟩))
        have HTN := hide (HS1.out.near.wide HR.out.lt (lo' := lo) (hi' := hi) (by have := HBC.out; have := HR.out.low; omega) (Nat.le_trans (HR.out.le (by omega) (Nat.le_refl _)) HR.out.top) ⟨HR.out.low, HR.out.bh⟩)
        go_roundw
        case rel =>
          refine ⟨j + 1, by go_num, congrArg (Value.int .i64) HQ.out, by omega, HT.out.trans HTN.out, HRN.out.to (fun i hi' => ?_)⟩
          by_cases e : i = j
          · subst e
            rw [if_pos rfl, if_pos (by omega), ← HK.out, HXX.out]
          · rw [if_neg e]
            by_cases e2 : i < j
            · rw [if_pos e2, if_pos (by omega)]
            · rw [if_neg e2, if_neg (by omega)]
        case measure => simp [intOf]; omega
      · have e : j = Xl.length := by omega
        subst e
        go_wp2
        go_ret
        refine ⟨rfl, HT.out, Or.inr ⟨b, off, cap, c, fun i => mkEn (k + (posEn Xl i : Int)) (X i), by rw [mkEns_len], ?_, by rw [mkEns_len]; exact HM.out, by rw [mkEns_len]; exact HC.out, fun i h => ?_, ?_⟩⟩
        · intro e
          have := congrArg List.length e
          rw [mkEns_len] at this
          exact HNE.out (List.length_eq_zero_iff.1 (by simpa using this))
        · have h' : i < Xl.length := by rw [mkEns_len] at h; exact h
          rw [mkEns_get _ _ _ _ h', ← HX.out i h']
        · rw [mkEns_len]
          exact HR.out.to (fun i hi' => by rw [if_pos hi'])
end Go.Proofs.YtpdlcccnlciecaaGreat
namespace Go.Proofs.YtpdlcccnlciecaaGreat
open Go.RowKit Go.Deep

set_option maxRecDepth 20000 in
set_option maxHeartbeats 8000000 in
theorem markSvs_any (lo hi : Nat) (v : Value) (Xl : List Sv) (k : Int) (w : World) (hv : SvsOwn lo hi w v Xl) (hn : SvsSmall Xl) (h0 : 0 ≤ k) (hk : k ≤ 2000000000000000000) :
    Calls Tryz.prog 28 #[v, .int .i64 k] w fun e w' => e = .returned (.int .i64 (k + (posSv Xl Xl.length : Int))) ∧ Touch lo hi w w' ∧ SvsOwn lo hi w' v (mkSvs k Xl) := by
  rcases hv with ⟨a, cap, rfl, rfl⟩ | ⟨b, off, cap, c, X, rfl, hne, hm, hcap, hX, hR⟩
  · go_enter Tryz.func28, Tryz.ntmps28
    go_wp2
    go_loop [5, 1] (fun i q => i = .int .i64 0 ∧ q = .int .i64 k) (fun _ _ => 0)
    case atStart => exact ⟨rfl, rfl⟩
    case round =>
      obtain ⟨rfl, rfl⟩ := hrel
      go_wp2
      go_ret
      exact ⟨by simp [posSv], Touch.refl _ _ _, Or.inl ⟨_, _, rfl, rfl⟩⟩
  · have hlen := hn.1
    have HN := hide hn
    have HX := hide hX
    have HR0 := hide hR
    have HM := hide hm
    have HC := hide hcap
    have HNE := hide hne
    clear hn hX hR hm hcap hne
    go_enter Tryz.func28, Tryz.ntmps28
    go_wp2
    go_loopw [5, 1] (fun i q wr => ∃ j : Nat, i = .int .i64 j ∧ q = .int .i64 (k + (posSv Xl j : Int)) ∧ j ≤ Xl.length ∧ Touch lo hi w wr ∧ SvRow lo hi wr b off Xl.length c (fun i => if i < j then mkSv (k + (posSv Xl i : Int)) (X i) else X i)) (fun i _ _ => Xl.length - (intOf i).toNat)
    case atStart => exact ⟨0, rfl, by simp [posSv], by omega, Touch.refl _ _ _, HR0.out.to (fun i _ => by simp)⟩
    case round =>
      obtain ⟨j, rfl, rfl, hj, ht, hr⟩ := hrel
      have HT := hide ht
      have HR := hide hr
      clear ht hr HR0
      by_cases hlt : j < Xl.length
      · have hpos := posSv_le HN.out (i := j) (by omega)
        have HP := hide (posSv_succ hlt)
        have hone : SvOne b (off + j * 13) (c j) (c (j + 1)) wr (X j) := by
          have := HR.out.row j hlt
          simp only [Nat.lt_irrefl, if_false] at this
          exact this
        have hxj : X j = Xl[j] := HX.out j hlt
        obtain ⟨x, hx⟩ : ∃ x, x = X j := ⟨_, rfl⟩
        rw [← hx] at hone
        obtain ⟨hs, hc⟩ := hone
        have HXJ := hide hxj
        have HXX := hide hx
        obtain ⟨K, hK⟩ : ∃ K, K = k + (posSv Xl j : Int) := ⟨_, rfl⟩
        rw [← hK]
        have hK0 : 0 ≤ K := by omega
        have hK1 : K ≤ 2500000000000000000 := by omega
        have HK := hide hK
        have HBC : Hid (b < c j) := Nat.lt_of_lt_of_le HR.out.bc (HR.out.le (Nat.zero_le _) (by omega))
        have HS : Hid (SvSt wr b (off + j * 13) (c j) (c (j + 1)) wr x) := ⟨Near.refl _ _ _ _ _ _, HBC.out, hc, HR.out.frz, HR.out.lt⟩
        clear hpos hxj hx hs hc hK
        obtain ⟨d0, d1, d2, d3, d4, d5, d6, d7, d8, d9, d10, d11, d12⟩ := HS.out.cells
        have fz := HS.out.frz
        go_wp2_with fail
        clear d0 d1 d2 d3 d4 d5 d6 d7 d8 d9 d10 d11 d12 fz
        refine (markText_any _ _ (by omega)).mono ?_
        rintro e v1 ⟨rfl, hb⟩
        have HS1 := hide (HS.out.below hb)
        clear hb HS
        obtain ⟨d0, d1, d2, d3, d4, d5, d6, d7, d8, d9, d10, d11, d12⟩ := HS1.out.cells
        have fz := HS1.out.frz
        go_wp2
        clear d0 d1 d2 d3 d4 d5 d6 d7 d8 d9 d10 d11 d12 fz
        obtain ⟨v2, hv2, HS2⟩ : ∃ v', v' = (((((((((((((v1.setCell ⟨b, off + j * 13, none⟩ (.string (mtB (K)))).setCell ⟨b, off + j * 13 + 1, none⟩ (.int .i64 (K + 1))).setCell ⟨b, off + j * 13 + 2, none⟩ (.bool (((K + 1 + 1) % 3 == 0)))).setCell ⟨b, off + j * 13 + 3, none⟩ (.int .i64 (K + 1 + 1 + 1))).setCell ⟨b, off + j * 13 + 4, none⟩ (.int .i64 (K + 1 + 1 + 1 + 1))).setCell ⟨b, off + j * 13 + 5, none⟩ (.int .i64 (K + 1 + 1 + 1 + 1 + 1))).setCell ⟨b, off + j * 13 + 6, none⟩ (.int .i64 (K + 1 + 1 + 1 + 1 + 1 + 1))).setCell ⟨b, off + j * 13 + 7, none⟩ (.int .i64 (K + 1 + 1 + 1 + 1 + 1 + 1 + 1))).setCell ⟨b, off + j * 13 + 8, none⟩ (.int .i64 (K + 1 + 1 + 1 + 1 + 1 + 1 + 1 + 1))).setCell ⟨b, off + j * 13 + 9, none⟩ (.int .i64 (K + 1 + 1 + 1 + 1 + 1 + 1 + 1 + 1 + 1))).setCell ⟨b, off + j * 13 + 10, none⟩ (.int .i64 (K + 1 + 1 + 1 + 1 + 1 + 1 + 1 + 1 + 1 + 1))).setCell ⟨b, off + j * 13 + 11, none⟩ (.int .i64 (K + 1 + 1 + 1 + 1 + 1 + 1 + 1 + 1 + 1 + 1 + 1))).setCell ⟨b, off + j * 13 + 12, none⟩ (.int .i64 (K + 1 + 1 + 1 + 1 + 1 + 1 + 1 + 1 + 1 + 1 + 1 + 1))) ∧ Hid (SvSt wr b (off + j * 13) (c j) (c (j + 1)) v' ⟨mtB (K), K + 1, ((K + 1 + 1) % 3 == 0), K + 1 + 1 + 1, K + 1 + 1 + 1 + 1, K + 1 + 1 + 1 + 1 + 1, K + 1 + 1 + 1 + 1 + 1 + 1, K + 1 + 1 + 1 + 1 + 1 + 1 + 1, K + 1 + 1 + 1 + 1 + 1 + 1 + 1 + 1, K + 1 + 1 + 1 + 1 + 1 + 1 + 1 + 1 + 1, K + 1 + 1 + 1 + 1 + 1 + 1 + 1 + 1 + 1 + 1, K + 1 + 1 + 1 + 1 + 1 + 1 + 1 + 1 + 1 + 1 + 1, K + 1 + 1 + 1 + 1 + 1 + 1 + 1 + 1 + 1 + 1 + 1 + 1⟩) := ⟨_, rfl, (((((((((((((HS1.out.s0 (mtB (K))).s1 (K + 1)).s2 (((K + 1 + 1) % 3 == 0))).s3 (K + 1 + 1 + 1)).s4 (K + 1 + 1 + 1 + 1)).s5 (K + 1 + 1 + 1 + 1 + 1)).s6 (K + 1 + 1 + 1 + 1 + 1 + 1)).s7 (K + 1 + 1 + 1 + 1 + 1 + 1 + 1)).s8 (K + 1 + 1 + 1 + 1 + 1 + 1 + 1 + 1)).s9 (K + 1 + 1 + 1 + 1 + 1 + 1 + 1 + 1 + 1)).s10 (K + 1 + 1 + 1 + 1 + 1 + 1 + 1 + 1 + 1 + 1)).s11 (K + 1 + 1 + 1 + 1 + 1 + 1 + 1 + 1 + 1 + 1 + 1)).s12 (K + 1 + 1 + 1 + 1 + 1 + 1 + 1 + 1 + 1 + 1 + 1 + 1))⟩
        rw [← hv2]
        clear hv2 HS1
        have HW : Hid (wdSv Xl[j] = 13) := by unfold Hid; rw [← HXJ.out, ← HXX.out]; rfl
        have HQ : Hid ((K + 1 + 1 + 1 + 1 + 1 + 1 + 1 + 1 + 1 + 1 + 1 + 1 + 1 : Int) = k + (posSv Xl (j + 1) : Int)) := by
          have h1 := HP.out
          have h2 := HW.out
          have h3 := HK.out
          unfold Hid
          omega
        have HRN := hide (HR.out.near hlt HS2.out.near (show SvOne b (off + j * 13) (c j) (c (j + 1)) v2 (mkSv K x) from ⟨⟨mt_size _ (by omega)⟩, HS2.out.cells⟩))
        have HTN := hide (HS2.out.near.wide HR.out.lt (lo' := lo) (hi' := hi) (by have := HBC.out; have := HR.out.low; omega) (Nat.le_trans (HR.out.le (by omega) (Nat.le_refl _)) HR.out.top) ⟨HR.out.low, HR.out.bh⟩)
        go_roundw
        case rel =>
          refine ⟨j + 1, by go_num, congrArg (Value.int .i64) HQ.out, by omega, HT.out.trans HTN.out, HRN.out.to (fun i hi' => ?_)⟩
          by_cases e : i = j
          · subst e
            rw [if_pos rfl, if_pos (by omega), ← HK.out, HXX.out]
          · rw [if_neg e]
            by_cases e2 : i < j
            · rw [if_pos e2, if_pos (by omega)]
            · rw [if_neg e2, if_neg (by omega)]
        case measure => simp [intOf]; omega
      · have e : j = Xl.length := by omega
        subst e
        go_wp2
        go_ret
        refine ⟨rfl, HT.out, Or.inr ⟨b, off, cap, c, fun i => mkSv (k + (posSv Xl i : Int)) (X i), by rw [mkSvs_len], ?_, by rw [mkSvs_len]; exact HM.out, by rw [mkSvs_len]; exact HC.out, fun i h => ?_, ?_⟩⟩
        · intro e
          have := congrArg List.length e
          rw [mkSvs_len] at this
          exact HNE.out (List.length_eq_zero_iff.1 (by simpa using this))
        · have h' : i < Xl.length := by rw [mkSvs_len] at h; exact h
          rw [mkSvs_get _ _ _ _ h', ← HX.out i h']
        · rw [mkSvs_len]
          exact HR.out.to (fun i hi' => by rw [if_pos hi'])
end Go.Proofs.YtpdlcccnlciecaaGreat
namespace Go.Proofs.YtpdlcccnlciecaaGreat
open Go.RowKit Go.Deep

set_option maxRecDepth 20000 in
set_option maxHeartbeats 8000000 in
theorem markCps_any (lo hi : Nat) (v : Value) (Xl : List Cp) (k : Int) (w : World) (hv : CpsOwn lo hi w v Xl) (hn : CpsSmall Xl) (h0 : 0 ≤ k) (hk : k ≤ 2000000000000000000) :
    Calls Tryz.prog 29 #[v, .int .i64 k] w fun e w' => e = .returned (.int .i64 (k + (posCp Xl Xl.length : Int))) ∧ Touch lo hi w w' ∧ CpsOwn lo hi w' v (mkCps k Xl) := by
  rcases hv with ⟨a, cap, rfl, rfl⟩ | ⟨b, off, cap, c, X, rfl, hne, hm, hcap, hX, hR⟩
  · go_enter Tryz.func29, Tryz.ntmps29
    go_wp2
    go_loop [5, 1] (fun i q => i = .int .i64 0 ∧ q = .int .i64 k) (fun _ _ => 0)
    case atStart => exact ⟨rfl, rfl⟩
    case round =>
      obtain ⟨rfl, rfl⟩ := hrel
      go_wp2
      go_ret
      exact ⟨by simp [posCp], Touch.refl _ _ _, Or.inl ⟨_, _, rfl, rfl⟩⟩
  · have hlen := hn.1
    have HN := hide hn
    have HX := hide hX
    have HR0 := hide hR
    have HM := hide hm
    have HC := hide hcap
    have HNE := hide hne
    clear hn hX hR hm hcap hne
    go_enter Tryz.func29, Tryz.ntmps29
    go_wp2
    go_loopw [5, 1] (fun i q wr => ∃ j : Nat, i = .int .i64 j ∧ q = .int .i64 (k + (posCp Xl j : Int)) ∧ j ≤ Xl.length ∧ Touch lo hi w wr ∧ CpRow lo hi wr b off Xl.length c (fun i => if i < j then mkCp (k + (posCp Xl i : Int)) (X i) else X i)) (fun i _ _ => Xl.length - (intOf i).toNat)
    case atStart => exact ⟨0, rfl, by simp [posCp], by omega, Touch.refl _ _ _, HR0.out.to (fun i _ => by simp)⟩
    case round =>
      obtain ⟨j, rfl, rfl, hj, ht, hr⟩ := hrel
      have HT := hide ht
      have HR := hide hr
      clear ht hr HR0
      by_cases hlt : j < Xl.length
      · have hpos := posCp_le HN.out (i := j) (by omega)
        have HP := hide (posCp_succ hlt)
        have hone : CpOne b (off + j * 7) (c j) (c (j + 1)) wr (X j) := by
          have := HR.out.row j hlt
          simp only [Nat.lt_irrefl, if_false] at this
          exact this
        have hxj : X j = Xl[j] := HX.out j hlt
        obtain ⟨x, hx⟩ : ∃ x, x = X j := ⟨_, rfl⟩
        rw [← hx] at hone
        obtain ⟨hs, hc⟩ := hone
        have HXJ := hide hxj
        have HXX := hide hx
        obtain ⟨K, hK⟩ : ∃ K, K = k + (posCp Xl j : Int) := ⟨_, rfl⟩
        rw [← hK]
        have hK0 : 0 ≤ K := by omega
        have hK1 : K ≤ 2500000000000000000 := by omega
        have HK := hide hK
        have HBC : Hid (b < c j) := Nat.lt_of_lt_of_le HR.out.bc (HR.out.le (Nat.zero_le _) (by omega))
        have HS : Hid (CpSt wr b (off + j * 7) (c j) (c (j + 1)) wr x) := ⟨Near.refl _ _ _ _ _ _, HBC.out, hc, HR.out.frz, HR.out.lt⟩
        clear hpos hxj hx hs hc hK
        obtain ⟨d0, d1, d2, d3, d4, d5, d6⟩ := HS.out.cells
        have fz := HS.out.frz
        go_wp2_with fail
        clear d0 d1 d2 d3 d4 d5 d6 fz
        refine (markText_any _ _ (by omega)).mono ?_
        rintro e v1 ⟨rfl, hb⟩
        have HS1 := hide (HS.out.below hb)
        clear hb HS
        obtain ⟨d0, d1, d2, d3, d4, d5, d6⟩ := HS1.out.cells
        have fz := HS1.out.frz
        go_wp2_with fail
        clear d0 d1 d2 d3 d4 d5 d6 fz
        obtain ⟨v2, hv2, HS2⟩ : ∃ v', v' = ((((((v1.setCell ⟨b, off + j * 7, none⟩ (.string (mtB (K)))).setCell ⟨b, off + j * 7 + 1, none⟩ (.int .i64 (K + 1))).setCell ⟨b, off + j * 7 + 2, none⟩ (.int .i64 (K + 1 + 1))).setCell ⟨b, off + j * 7 + 3, none⟩ (.int .i64 (K + 1 + 1 + 1))).setCell ⟨b, off + j * 7 + 4, none⟩ (.int .i64 (K + 1 + 1 + 1 + 1))).setCell ⟨b, off + j * 7 + 5, none⟩ (.bool (((K + 1 + 1 + 1 + 1 + 1) % 3 == 0)))) ∧ Hid (CpSt wr b (off + j * 7) (c j) (c (j + 1)) v' ⟨mtB (K), K + 1, K + 1 + 1, K + 1 + 1 + 1, K + 1 + 1 + 1 + 1, ((K + 1 + 1 + 1 + 1 + 1) % 3 == 0), x.be⟩) := ⟨_, rfl, ((((((HS1.out.s0 (mtB (K))).s1 (K + 1)).s2 (K + 1 + 1)).s3 (K + 1 + 1 + 1)).s4 (K + 1 + 1 + 1 + 1)).s5 (((K + 1 + 1 + 1 + 1 + 1) % 3 == 0)))⟩
        rw [← hv2]
        clear hv2 HS1
        refine (markText_any _ _ (by omega)).mono ?_
        rintro e v3 ⟨rfl, hb⟩
        have HS3 := hide (HS2.out.below hb)
        clear hb HS2
        obtain ⟨d0, d1, d2, d3, d4, d5, d6⟩ := HS3.out.cells
        have fz := HS3.out.frz
        go_wp2
        clear d0 d1 d2 d3 d4 d5 d6 fz
        obtain ⟨v4, hv4, HS4⟩ : ∃ v', v' = (v3.setCell ⟨b, off + j * 7 + 6, none⟩ (.string (mtB (K + 1 + 1 + 1 + 1 + 1 + 1)))) ∧ Hid (CpSt wr b (off + j * 7) (c j) (c (j + 1)) v' ⟨mtB (K), K + 1, K + 1 + 1, K + 1 + 1 + 1, K + 1 + 1 + 1 + 1, ((K + 1 + 1 + 1 + 1 + 1) % 3 == 0), mtB (K + 1 + 1 + 1 + 1 + 1 + 1)⟩) := ⟨_, rfl, (HS3.out.s6 (mtB (K + 1 + 1 + 1 + 1 + 1 + 1)))⟩
        rw [← hv4]
        clear hv4 HS3
        have HW : Hid (wdCp Xl[j] = 7) := by unfold Hid; rw [← HXJ.out, ← HXX.out]; rfl
        have HQ : Hid ((K + 1 + 1 + 1 + 1 + 1 + 1 + 1 : Int) = k + (posCp Xl (j + 1) : Int)) := by
          have h1 := HP.out
          have h2 := HW.out
          have h3 := HK.out
          unfold Hid
          omega
        have HRN := hide (HR.out.near hlt HS4.out.near (show CpOne b (off + j * 7) (c j) (c (j + 1)) v4 (mkCp K x) from ⟨⟨mt_size _ (by omega), mt_size _ (by omega)⟩, HS4.out.cells⟩))
        have HTN := hide (HS4.out.near.wide HR.out.lt (lo' := lo) (hi' := hi) (by have := HBC.out; have := HR.out.low; omega) (Nat.le_trans (HR.out.le (by omega) (Nat.le_refl _)) HR.out.top) ⟨HR.out.low, HR.out.bh⟩)
        go_roundw
        case rel =>
          refine ⟨j + 1, by go_num, congrArg (Value.int .i64) HQ.out, by omega, HT.out.trans HTN.out, HRN.out.to (fun i hi' => ?_)⟩
          by_cases e : i = j
          · subst e
            rw [if_pos rfl, if_pos (by omega), ← HK.out, HXX.out]
          · rw [if_neg e]
            by_cases e2 : i < j
            · rw [if_pos e2, if_pos (by omega)]
            · rw [if_neg e2, if_neg (by omega)]
        case measure => simp [intOf]; omega
      · have e : j = Xl.length := by omega
        subst e
        go_wp2
        go_ret
        refine ⟨rfl, HT.out, Or.inr ⟨b, off, cap, c, fun i => mkCp (k + (posCp Xl i : Int)) (X i), by rw [mkCps_len], ?_, by rw [mkCps_len]; exact HM.out, by rw [mkCps_len]; exact HC.out, fun i h => ?_, ?_⟩⟩
        · intro e
          have := congrArg List.length e
          rw [mkCps_len] at this
          exact HNE.out (List.length_eq_zero_iff.1 (by simpa using this))
        · have h' : i < Xl.length := by rw [mkCps_len] at h; exact h
          rw [mkCps_get _ _ _ _ h', ← HX.out i h']
        · rw [mkCps_len]
          exact HR.out.to (fun i hi' => by rw [if_pos hi'])
end Go.Proofs.YtpdlcccnlciecaaGreat
namespace Go.Proofs.YtpdlcccnlciecaaGreat
open Go.RowKit Go.Deep

def svF (L : List Sv) (s : ByteArray) : Option Sv := L.find? fun x => x.nm.toList == s.toList
def hasBe (L : List Be) (s : ByteArray) : Bool := L.any fun x => x.nm.toList == s.toList
def cpT (B : Sb) (c : Cp) (x : Sv) : Bool := inB 1 (x.nx - 1) c.nu && (inB 1 B.now c.ve && (inB 1 1000000 c.im && (inB 1 4 c.st && (if c.st == 1 then c.be.toList.isEmpty else hasBe B.bs c.be))))
def cpB (B : Sb) (c : Cp) : Bool := match svF B.ss c.se with
  | none => false
  | some x => cpT B c x
def aheadB (a b : Cp) : Bool := Op.bytesLess a.se.toList b.se.toList || ((a.se.toList == b.se.toList) && decide (a.nu < b.nu))
/-- each stands behind the one ahead of it -/
def risN {X : Type} (r : X → X → Bool) (L : List X) : Nat → Bool
  | 0 => true
  | j + 1 => match L[j]?, L[j + 1]? with
    | some x, some y => r x y
    | _, _ => true
def risR {X : Type} (r : X → X → Bool) (L : List X) : Bool := (List.range L.length).all (risN r L)
theorem risN_at {X : Type} {r : X → X → Bool} {L : List X} {j : Nat} (h : j + 1 < L.length) : risN r L (j + 1) = r L[j] L[j + 1] := by
  show (match L[j]?, L[j + 1]? with | some x, some y => r x y | _, _ => true) = _
  rw [List.getElem?_eq_getElem (by omega), List.getElem?_eq_getElem h]
def rSv (x y : Sv) : Bool := Op.bytesLess x.nm.toList y.nm.toList
def rBe (x y : Be) : Bool := Op.bytesLess x.nm.toList y.nm.toList
def beB (x : Be) : Bool := nmB x.nm
/-- where a service stands; whether a berth is there -/
def svI (L : List Sv) (s : ByteArray) : Nat := L.findIdx fun x => x.nm.toList == s.toList
def SvPl (L : List Sv) (s : ByteArray) (r : Int) : Prop := (r = -1 ∧ svF L s = none) ∨ (r = (svI L s : Int) ∧ ∃ (h : svI L s < L.length), svF L s = some L[svI L s])
def BePl (L : List Be) (s : ByteArray) (r : Int) : Prop := decide (0 ≤ r) = hasBe L s
/-- a valid book -/
def validB (B : Sb) : Bool := inB 0 1000000 B.now && (decide (B.ss.length ≤ 8) && (decide (B.cs.length ≤ 200) && (decide (B.bs.length ≤ 6) && ((B.ss.all (svB B.now) && risR rSv B.ss) && ((B.bs.all beB && risR rBe B.bs) && (B.cs.all (cpB B) && risR aheadB B.cs))))))
theorem all_no {X : Type} {L : List X} {f : X → Bool} {k : Nat} (hk : k < L.length) (h : f L[k] = false) : L.all f = false := by
  rw [List.all_eq_false]
  exact ⟨L[k], List.getElem_mem hk, by simp [h]⟩
theorem all_yes {X : Type} {L : List X} {f : X → Bool} (h : ∀ i (h : i < L.length), f L[i] = true) : L.all f = true := by
  rw [List.all_eq_true]
  intro x hx
  obtain ⟨i, hi, rfl⟩ := List.getElem_of_mem hx
  exact h i hi
theorem all_at {X : Type} {L : List X} {f : X → Bool} (h : L.all f = true) {k : Nat} (hk : k < L.length) : f L[k] = true := List.all_eq_true.1 h _ (List.getElem_mem hk)
theorem step_all {X : Type} {L : List X} {f : X → Bool} {k : Nat} (hall : ∀ j (h : j < L.length), j < k → f L[j] = true) (hk : k < L.length) (h : f L[k] = true) : ∀ j (h : j < L.length), j < k + 1 → f L[j] = true := fun j hj hjk => by
  by_cases e : j = k
  · subst e; exact h
  · exact hall j hj (by omega)
theorem find_at {X : Type} {L : List X} {f : X → Bool} {k : Nat} (hk : k < L.length) (hno : ∀ j (h : j < L.length), j < k → f L[j] = false) (h : f L[k] = true) : L.find? f = some L[k] := by
  rw [List.find?_eq_some_iff_getElem]
  exact ⟨h, k, hk, rfl, fun j hj => by rw [hno j (by omega) hj]; rfl⟩
theorem idx_at {X : Type} {L : List X} {f : X → Bool} {k : Nat} (hk : k < L.length) (hno : ∀ j (h : j < L.length), j < k → f L[j] = false) (h : f L[k] = true) : L.findIdx f = k := (List.findIdx_eq hk).2 ⟨h, fun j hj => hno j (by omega) hj⟩
theorem SvPl.at {L : List Sv} {s : ByteArray} {k : Nat} (hk : k < L.length) (hno : ∀ j (h : j < L.length), j < k → (L[j].nm.toList == s.toList) = false) (h : (L[k].nm.toList == s.toList) = true) : SvPl L s (k : Int) := by
  have hi : svI L s = k := idx_at (f := fun x : Sv => x.nm.toList == s.toList) hk hno h
  refine Or.inr ?_
  rw [hi]
  exact ⟨rfl, hk, find_at (f := fun x : Sv => x.nm.toList == s.toList) hk hno h⟩
theorem find_none {X : Type} {L : List X} {f : X → Bool} (hno : ∀ j (h : j < L.length), f L[j] = false) : L.find? f = none := by
  rw [List.find?_eq_none]
  intro x hx
  obtain ⟨i, hi, rfl⟩ := List.getElem_of_mem hx
  rw [hno i hi]; exact Bool.false_ne_true
theorem any_at {X : Type} {L : List X} {f : X → Bool} {k : Nat} (hk : k < L.length) (h : f L[k] = true) : L.any f = true := List.any_eq_true.2 ⟨_, List.getElem_mem hk, h⟩
theorem any_none {X : Type} {L : List X} {f : X → Bool} (hno : ∀ j (h : j < L.length), f L[j] = false) : L.any f = false := by
  rw [List.any_eq_false]
  intro x hx
  obtain ⟨i, hi, rfl⟩ := List.getElem_of_mem hx
  rw [hno i hi]; exact Bool.false_ne_true
theorem svB_nx {now : Int} {x : Sv} (h : svB now x = true) : 1 ≤ x.nx ∧ x.nx ≤ 1000000 := by
  unfold svB at h
  simp only [Bool.and_eq_true] at h
  have := h.2.2.2.1
  exact ⟨inB_lo this, inB_hi this⟩
end Go.Proofs.YtpdlcccnlciecaaGreat
