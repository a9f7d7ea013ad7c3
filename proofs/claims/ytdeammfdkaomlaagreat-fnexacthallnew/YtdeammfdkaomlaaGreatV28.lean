import Derived.Test.YtdeammfdkaomlaaGreatV26
namespace Go.Proofs.YtdeammfdkaomlaaGreat
open Go.RowKit Go.Deep

set_option maxRecDepth 20000 in
set_option maxHeartbeats 8000000 in
theorem markGrs_any (lo hi : Nat) (v : Value) (Xl : List Gr) (k : Int) (w : World) (hv : GrsOwn lo hi w v Xl) (hn : GrsSmall Xl) (h0 : 0 ≤ k) (hk : k ≤ 2000000000000000000) :
    Calls Tryz.prog 41 #[v, .int .i64 k] w fun e w' => e = .returned (.int .i64 (k + (posGr Xl Xl.length : Int))) ∧ Touch lo hi w w' ∧ GrsOwn lo hi w' v (mkGrs k Xl) := by
  rcases hv with ⟨a, cap, rfl, rfl⟩ | ⟨b, off, cap, c, X, rfl, hne, hm, hcap, hX, hR⟩
  · go_enter Tryz.func41, Tryz.ntmps41
    go_wp2
    go_loop [5, 1] (fun i q => i = .int .i64 0 ∧ q = .int .i64 k) (fun _ _ => 0)
    case atStart => exact ⟨rfl, rfl⟩
    case round =>
      obtain ⟨rfl, rfl⟩ := hrel
      go_wp2
      go_ret
      exact ⟨by simp [posGr], Touch.refl _ _ _, Or.inl ⟨_, _, rfl, rfl⟩⟩
  · have hlen := hn.1
    have HN := hide hn
    have HX := hide hX
    have HR0 := hide hR
    have HM := hide hm
    have HC := hide hcap
    have HNE := hide hne
    clear hn hX hR hm hcap hne
    go_enter Tryz.func41, Tryz.ntmps41
    go_wp2
    go_loopw [5, 1] (fun i q wr => ∃ j : Nat, i = .int .i64 j ∧ q = .int .i64 (k + (posGr Xl j : Int)) ∧ j ≤ Xl.length ∧ Touch lo hi w wr ∧ GrRow lo hi wr b off Xl.length c (fun i => if i < j then mkGr (k + (posGr Xl i : Int)) (X i) else X i)) (fun i _ _ => Xl.length - (intOf i).toNat)
    case atStart => exact ⟨0, rfl, by simp [posGr], by omega, Touch.refl _ _ _, HR0.out.to (fun i _ => by simp)⟩
    case round =>
      obtain ⟨j, rfl, rfl, hj, ht, hr⟩ := hrel
      have HT := hide ht
      have HR := hide hr
      clear ht hr HR0
      by_cases hlt : j < Xl.length
      · have hpos := posGr_le HN.out (i := j) (by omega)
        have HP := hide (posGr_succ hlt)
        have hone : GrOne b (off + j * 7) (c j).1 (c j).2 wr (X j) := by
          have := HR.out.row j hlt
          simp only [Nat.lt_irrefl, if_false] at this
          exact this
        have hxj : X j = Xl[j] := HX.out j hlt
        obtain ⟨x, hx⟩ : ∃ x, x = X j := ⟨_, rfl⟩
        rw [← hx] at hone
        obtain ⟨hs, vv0, q0, hc, l0⟩ := hone
        have hs0 : x.vb.length ≤ 1048576 := by have := HN.out.2 j hlt; rw [hx, hxj]; unfold GrSmall at this; omega
        have HXJ := hide hxj
        have HXX := hide hx
        obtain ⟨K, hK⟩ : ∃ K, K = k + (posGr Xl j : Int) := ⟨_, rfl⟩
        rw [← hK]
        have hK0 : 0 ≤ K := by omega
        have hK1 : K ≤ 2500000000000000000 := by omega
        have HK := hide hK
        have HBC : Hid (b < (c j).1 ∨ (c j).2 ≤ b) := (HR.out.seg j hlt).2.2
        have HS : Hid (GrSt wr b (off + j * 7) (c j).1 (c j).2 vv0 wr x) := ⟨Near.refl _ _ _ _ _ _, HBC.out, q0, hc, l0, HR.out.frz, HR.out.lt⟩
        clear hpos hxj hx hs hc l0 q0 hK
        obtain ⟨d0, d1, d2, d3, d4, d5, d6⟩ := HS.out.cells
        have fz := HS.out.frz
        go_wp2_with fail
        clear d0 d1 d2 d3 d4 d5 d6 fz
        obtain ⟨v1, hv1, HS1⟩ : ∃ v', v' = (wr.setCell ⟨b, off + j * 7, none⟩ (.int .i64 (K))) ∧ Hid (GrSt wr b (off + j * 7) (c j).1 (c j).2 vv0 v' ⟨K, x.tw, x.gb, x.vb, x.kd, x.tm, x.pf⟩) := ⟨_, rfl, (HS.out.s0 (K))⟩
        rw [← hv1]
        clear hv1 HS
        refine (markText_any _ _ (by omega)).mono ?_
        rintro e v2 ⟨rfl, hb⟩
        have HS2 := hide (HS1.out.below hb)
        clear hb HS1
        obtain ⟨d0, d1, d2, d3, d4, d5, d6⟩ := HS2.out.cells
        have fz := HS2.out.frz
        go_wp2_with fail
        clear d0 d1 d2 d3 d4 d5 d6 fz
        obtain ⟨v3, hv3, HS3⟩ : ∃ v', v' = (v2.setCell ⟨b, off + j * 7 + 1, none⟩ (.string (mtB (K + 1)))) ∧ Hid (GrSt wr b (off + j * 7) (c j).1 (c j).2 vv0 v' ⟨K, mtB (K + 1), x.gb, x.vb, x.kd, x.tm, x.pf⟩) := ⟨_, rfl, (HS2.out.s1 (mtB (K + 1)))⟩
        rw [← hv3]
        clear hv3 HS2
        refine (markText_any _ _ (by omega)).mono ?_
        rintro e v4 ⟨rfl, hb⟩
        have HS4 := hide (HS3.out.below hb)
        clear hb HS3
        obtain ⟨d0, d1, d2, d3, d4, d5, d6⟩ := HS4.out.cells
        have fz := HS4.out.frz
        go_wp2_with fail
        clear d0 d1 d2 d3 d4 d5 d6 fz
        obtain ⟨v5, hv5, HS5⟩ : ∃ v', v' = (v4.setCell ⟨b, off + j * 7 + 2, none⟩ (.string (mtB (K + 1 + 1)))) ∧ Hid (GrSt wr b (off + j * 7) (c j).1 (c j).2 vv0 v' ⟨K, mtB (K + 1), mtB (K + 1 + 1), x.vb, x.kd, x.tm, x.pf⟩) := ⟨_, rfl, (HS4.out.s2 (mtB (K + 1 + 1)))⟩
        rw [← hv5]
        clear hv5 HS4
        refine (markInts_any _ _ _ x.vb _ _ HS5.out.l0 (by omega) (by omega)).mono ?_
        rintro e v6 ⟨rfl, ht, hl⟩
        have HS6 : Hid (GrSt wr b (off + j * 7) (c j).1 (c j).2 vv0 v6 ⟨K, mtB (K + 1), mtB (K + 1 + 1), imarks (K + 1 + 1 + 1) x.vb.length, x.kd, x.tm, x.pf⟩) := HS5.out.m0' ht hl
        clear ht hl HS5
        obtain ⟨d0, d1, d2, d3, d4, d5, d6⟩ := HS6.out.cells
        have fz := HS6.out.frz
        go_wp2_with fail
        clear d0 d1 d2 d3 d4 d5 d6 fz
        refine (markText_any _ _ (by omega)).mono ?_
        rintro e v7 ⟨rfl, hb⟩
        have HS7 := hide (HS6.out.below hb)
        clear hb HS6
        obtain ⟨d0, d1, d2, d3, d4, d5, d6⟩ := HS7.out.cells
        have fz := HS7.out.frz
        go_wp2_with fail
        clear d0 d1 d2 d3 d4 d5 d6 fz
        obtain ⟨v8, hv8, HS8⟩ : ∃ v', v' = (v7.setCell ⟨b, off + j * 7 + 4, none⟩ (.string (mtB (K + 1 + 1 + 1 + (x.vb.length : Int))))) ∧ Hid (GrSt wr b (off + j * 7) (c j).1 (c j).2 vv0 v' ⟨K, mtB (K + 1), mtB (K + 1 + 1), imarks (K + 1 + 1 + 1) x.vb.length, mtB (K + 1 + 1 + 1 + (x.vb.length : Int)), x.tm, x.pf⟩) := ⟨_, rfl, (HS7.out.s4 (mtB (K + 1 + 1 + 1 + (x.vb.length : Int))))⟩
        rw [← hv8]
        clear hv8 HS7
        refine (markText_any _ _ (by omega)).mono ?_
        rintro e v9 ⟨rfl, hb⟩
        have HS9 := hide (HS8.out.below hb)
        clear hb HS8
        obtain ⟨d0, d1, d2, d3, d4, d5, d6⟩ := HS9.out.cells
        have fz := HS9.out.frz
        go_wp2_with fail
        clear d0 d1 d2 d3 d4 d5 d6 fz
        obtain ⟨v10, hv10, HS10⟩ : ∃ v', v' = (v9.setCell ⟨b, off + j * 7 + 5, none⟩ (.string (mtB (K + 1 + 1 + 1 + (x.vb.length : Int) + 1)))) ∧ Hid (GrSt wr b (off + j * 7) (c j).1 (c j).2 vv0 v' ⟨K, mtB (K + 1), mtB (K + 1 + 1), imarks (K + 1 + 1 + 1) x.vb.length, mtB (K + 1 + 1 + 1 + (x.vb.length : Int)), mtB (K + 1 + 1 + 1 + (x.vb.length : Int) + 1), x.pf⟩) := ⟨_, rfl, (HS9.out.s5 (mtB (K + 1 + 1 + 1 + (x.vb.length : Int) + 1)))⟩
        rw [← hv10]
        clear hv10 HS9
        refine (markText_any _ _ (by omega)).mono ?_
        rintro e v11 ⟨rfl, hb⟩
        have HS11 := hide (HS10.out.below hb)
        clear hb HS10
        obtain ⟨d0, d1, d2, d3, d4, d5, d6⟩ := HS11.out.cells
        have fz := HS11.out.frz
        go_wp2
        clear d0 d1 d2 d3 d4 d5 d6 fz
        obtain ⟨v12, hv12, HS12⟩ : ∃ v', v' = (v11.setCell ⟨b, off + j * 7 + 6, none⟩ (.string (mtB (K + 1 + 1 + 1 + (x.vb.length : Int) + 1 + 1)))) ∧ Hid (GrSt wr b (off + j * 7) (c j).1 (c j).2 vv0 v' ⟨K, mtB (K + 1), mtB (K + 1 + 1), imarks (K + 1 + 1 + 1) x.vb.length, mtB (K + 1 + 1 + 1 + (x.vb.length : Int)), mtB (K + 1 + 1 + 1 + (x.vb.length : Int) + 1), mtB (K + 1 + 1 + 1 + (x.vb.length : Int) + 1 + 1)⟩) := ⟨_, rfl, (HS11.out.s6 (mtB (K + 1 + 1 + 1 + (x.vb.length : Int) + 1 + 1)))⟩
        rw [← hv12]
        clear hv12 HS11
        have HW : Hid (wdGr Xl[j] = 6 + x.vb.length) := by unfold Hid; rw [← HXJ.out, ← HXX.out]; rfl
        have HQ : Hid ((K + 1 + 1 + 1 + (x.vb.length : Int) + 1 + 1 + 1 : Int) = k + (posGr Xl (j + 1) : Int)) := by
          have h1 := HP.out
          have h2 := HW.out
          have h3 := HK.out
          unfold Hid
          omega
        have HRN := hide (HR.out.near hlt HS12.out.near (show GrOne b (off + j * 7) (c j).1 (c j).2 v12 (mkGr K x) from ⟨⟨mt_size _ (by omega), mt_size _ (by omega), mt_size _ (by omega), mt_size _ (by omega), mt_size _ (by omega)⟩, _, HS12.out.q0, HS12.out.cells, HS12.out.l0⟩))
        have HTN := hide (HS12.out.near.wide HR.out.lt (lo' := lo) (hi' := hi) (HR.out.seg j hlt).1 (HR.out.seg j hlt).2.1 ⟨HR.out.low, HR.out.bh⟩)
        go_roundw
        case rel =>
          refine ⟨j + 1, by go_num, congrArg (Value.int .i64) HQ.out, by omega, HT.out.trans HTN.out, HRN.out.to (fun i hi' => ?_)⟩
          by_cases e : i = j
          · subst e
            rw [if_pos rfl, if_pos (by omega), ← HK.out, HXX.out]
          · rw [if_neg e]
            by_cases e2 : i < j
            · rw [if_pos e2, if_pos (by omega)]
            · rw [if_neg e2, if_neg (by omega)]
        case measure => simp [intOf]; omega
      · have e : j = Xl.length := by omega
        subst e
        go_wp2
        go_ret
        refine ⟨rfl, HT.out, Or.inr ⟨b, off, cap, c, fun i => mkGr (k + (posGr Xl i : Int)) (X i), by rw [mkGrs_len], ?_, by rw [mkGrs_len]; exact HM.out, by rw [mkGrs_len]; exact HC.out, fun i h => ?_, ?_⟩⟩
        · intro e
          have := congrArg List.length e
          rw [mkGrs_len] at this
          exact HNE.out (List.length_eq_zero_iff.1 (by simpa using this))
        · have h' : i < Xl.length := by rw [mkGrs_len] at h; exact h
          rw [mkGrs_get _ _ _ _ h', ← HX.out i h']
        · rw [mkGrs_len]
          exact HR.out.to (fun i hi' => by rw [if_pos hi'])
end Go.Proofs.YtdeammfdkaomlaaGreat
