import Derived.Test.YtaogpeebencnoaaGreatDoorA06
namespace Go.Proofs.YtaogpeebencnoaaGreatDoor
open Go.RowKit Go.Deep

set_option maxRecDepth 20000 in
set_option maxHeartbeats 8000000 in
theorem markBes_any (lo hi : Nat) (v : Value) (Xl : List Be) (k : Int) (w : World) (hv : BesOwn lo hi w v Xl) (hn : BesSmall Xl) (h0 : 0 ≤ k) (hk : k ≤ 2000000000000000000) :
    Calls Tryz.prog 36 #[v, .int .i64 k] w fun e w' => e = .returned (.int .i64 (k + (posBe Xl Xl.length : Int))) ∧ Touch lo hi w w' ∧ BesOwn lo hi w' v (mkBes k Xl) := by
  rcases hv with ⟨a, cap, rfl, rfl⟩ | ⟨b, off, cap, c, X, rfl, hne, hm, hcap, hX, hR⟩
  · go_enter Tryz.func36, Tryz.ntmps36
    go_wp2
    go_loop [5, 1] (fun i q => i = .int .i64 0 ∧ q = .int .i64 k) (fun _ _ => 0)
    case atStart => exact ⟨rfl, rfl⟩
    case round =>
      obtain ⟨rfl, rfl⟩ := hrel
      go_wp2
      go_ret
      exact ⟨by simp [posBe], Touch.refl _ _ _, Or.inl ⟨_, _, rfl, rfl⟩⟩
  · have hlen := hn.1
    have HN := hide hn
    have HX := hide hX
    have HR0 := hide hR
    have HM := hide hm
    have HC := hide hcap
    have HNE := hide hne
    clear hn hX hR hm hcap hne
    go_enter Tryz.func36, Tryz.ntmps36
    go_wp2
    go_loopw [5, 1] (fun i q wr => ∃ j : Nat, i = .int .i64 j ∧ q = .int .i64 (k + (posBe Xl j : Int)) ∧ j ≤ Xl.length ∧ Touch lo hi w wr ∧ BeRow lo hi wr b off Xl.length c (fun i => if i < j then mkBe (k + (posBe Xl i : Int)) (X i) else X i)) (fun i _ _ => Xl.length - (intOf i).toNat)
    case atStart => exact ⟨0, rfl, by simp [posBe], by omega, Touch.refl _ _ _, HR0.out.to (fun i _ => by simp)⟩
    case round =>
      obtain ⟨j, rfl, rfl, hj, ht, hr⟩ := hrel
      have HT := hide ht
      have HR := hide hr
      clear ht hr HR0
      by_cases hlt : j < Xl.length
      · have hpos := posBe_le HN.out (i := j) (by omega)
        have HP := hide (posBe_succ hlt)
        have hone : BeOne b (off + j * 2) (c j) (c (j + 1)) wr (X j) := by
          have := HR.out.row j hlt
          simp only [Nat.lt_irrefl, if_false] at this
          exact this
        have hxj : X j = Xl[j] := HX.out j hlt
        obtain ⟨x, hx⟩ : ∃ x, x = X j := ⟨_, rfl⟩
        rw [← hx] at hone
        obtain ⟨hs, hc⟩ := hone
        have HXJ := hide hxj
        have HXX := hide hx
        obtain ⟨K, hK⟩ : ∃ K, K = k + (posBe Xl j : Int) := ⟨_, rfl⟩
        rw [← hK]
        have hK0 : 0 ≤ K := by omega
        have hK1 : K ≤ 2500000000000000000 := by omega
        have HK := hide hK
        have HBC : Hid (b < c j) := Nat.lt_of_lt_of_le HR.out.bc (HR.out.le (Nat.zero_le _) (by omega))
        have HS : Hid (BeSt wr b (off + j * 2) (c j) (c (j + 1)) wr x) := ⟨Near.refl _ _ _ _ _ _, HBC.out, hc, HR.out.frz, HR.out.lt⟩
        clear hpos hxj hx hs hc hK
        obtain ⟨d0, d1⟩ := HS.out.cells
        have fz := HS.out.frz
        go_wp2_with fail
        clear d0 d1 fz
        refine (markText_any _ _ (by omega)).mono ?_
        rintro e v1 ⟨rfl, hb⟩
        have HS1 := hide (HS.out.below hb)
        clear hb HS
        obtain ⟨d0, d1⟩ := HS1.out.cells
        have fz := HS1.out.frz
        go_wp2
        clear d0 d1 fz
        obtain ⟨v2, hv2, HS2⟩ : ∃ v', v' = ((v1.setCell ⟨b, off + j * 2, none⟩ (.string (mtB (K)))).setCell ⟨b, off + j * 2 + 1, none⟩ (.bool (((K + 1) % 3 == 0)))) ∧ Hid (BeSt wr b (off + j * 2) (c j) (c (j + 1)) v' ⟨mtB (K), ((K + 1) % 3 == 0)⟩) := ⟨_, rfl, ((HS1.out.s0 (mtB (K))).s1 (((K + 1) % 3 == 0)))⟩
        rw [← hv2]
        clear hv2 HS1
        have HW : Hid (wdBe Xl[j] = 2) := by unfold Hid; rw [← HXJ.out, ← HXX.out]; rfl
        have HQ : Hid ((K + 1 + 1 : Int) = k + (posBe Xl (j + 1) : Int)) := by
          have h1 := HP.out
          have h2 := HW.out
          have h3 := HK.out
          unfold Hid
          omega
        have HRN := hide (HR.out.near hlt HS2.out.near (show BeOne b (off + j * 2) (c j) (c (j + 1)) v2 (mkBe K x) from ⟨⟨mt_size _ (by omega)⟩, HS2.out.cells⟩))
        have HTN := hide (HS2.out.near.wide HR.out.lt (lo' := lo) (hi' := hi) (by have := HBC.out; have := HR.out.low; omega) (Nat.le_trans (HR.out.le (by omega) (Nat.le_refl _)) HR.out.top) ⟨HR.out.low, HR.out.bh⟩)
        go_roundw
        case rel =>
          refine ⟨j + 1, by go_num, congrArg (Value.int .i64) HQ.out, by omega, HT.out.trans HTN.out, HRN.out.to (fun i hi' => ?_)⟩
          by_cases e : i = j
          · subst e
            rw [if_pos rfl, if_pos (by omega), ← HK.out, HXX.out]
          · rw [if_neg e]
            by_cases e2 : i < j
            · rw [if_pos e2, if_pos (by omega)]
            · rw [if_neg e2, if_neg (by omega)]
        case measure => simp [intOf]; omega
      · have e : j = Xl.length := by omega
        subst e
        go_wp2
        go_ret
        refine ⟨rfl, HT.out, Or.inr ⟨b, off, cap, c, fun i => mkBe (k + (posBe Xl i : Int)) (X i), by rw [mkBes_len], ?_, by rw [mkBes_len]; exact HM.out, by rw [mkBes_len]; exact HC.out, fun i h => ?_, ?_⟩⟩
        · intro e
          have := congrArg List.length e
          rw [mkBes_len] at this
          exact HNE.out (List.length_eq_zero_iff.1 (by simpa using this))
        · have h' : i < Xl.length := by rw [mkBes_len] at h; exact h
          rw [mkBes_get _ _ _ _ h', ← HX.out i h']
        · rw [mkBes_len]
          exact HR.out.to (fun i hi' => by rw [if_pos hi'])
end Go.Proofs.YtaogpeebencnoaaGreatDoor
namespace Go.Proofs.YtaogpeebencnoaaGreatDoor
open Go.RowKit Go.Deep

set_option maxRecDepth 20000 in
set_option maxHeartbeats 8000000 in
theorem heldBes_any (lo hi : Nat) (v : Value) (Xl : List Be) (k : Int) (w : World) (hv : BesOwn lo hi w v (mkBes k Xl)) (hn : BesSmall Xl) (h0 : 0 ≤ k) (hk : k ≤ 2000000000000000000) :
    Calls Tryz.prog 40 #[v, .int .i64 k] w fun e w' => e = .returned (.int .i64 (k + (posBe Xl Xl.length : Int))) ∧ Below w.heap.size w w' := by
  have HA := hide hv.at
  have HN := hide hn
  have hlen := hn.1
  obtain ⟨a, cap, hv'⟩ := hv.form
  rw [mkBes_len] at hv'
  subst hv'
  clear hv hn
  go_enter Tryz.func40, Tryz.ntmps40
  go_wp2
  go_loopw [5, 1] (fun i q wr => ∃ j : Nat, i = .int .i64 j ∧ q = .int .i64 (k + (posBe Xl j : Int)) ∧ j ≤ Xl.length ∧ Below w.heap.size w wr) (fun i _ _ => Xl.length - (intOf i).toNat)
  case atStart => exact ⟨0, rfl, by simp [posBe], by omega, Below.refl _ _⟩
  case round =>
    obtain ⟨j, rfl, rfl, hj, hb⟩ := hrel
    have HB0 := hide hb
    clear hb
    by_cases hlt : j < Xl.length
    · obtain ⟨b, off, rfl, hbw, -, hc⟩ := HA.out.full' (by rw [mkBes_len]; omega)
      have hcj := hc j (by rw [mkBes_len]; omega)
      rw [mkBes_get _ _ _ _ hlt] at hcj
      have hpos := posBe_le HN.out (i := j) (by omega)
      have HP := hide (posBe_succ hlt)
      obtain ⟨x, hx⟩ : ∃ x, x = Xl[j] := ⟨_, rfl⟩
      rw [← hx] at hcj
      have HXX := hide hx
      obtain ⟨K, hK⟩ : ∃ K, K = k + (posBe Xl j : Int) := ⟨_, rfl⟩
      rw [← hK] at hcj
      rw [← hK]
      have hK0 : 0 ≤ K := by omega
      have hK1 : K ≤ 2500000000000000000 := by omega
      have HK := hide hK
      obtain ⟨_, hcl⟩ := hcj
      have HC := hide hcl
      clear hc hcl hx hK hpos
      have d0 : wr.cell? ⟨b, off + j * 2, none⟩ = some (.string (mtB (K))) := (HC.out.below HB0.out hbw).c0
      have d1 : wr.cell? ⟨b, off + j * 2 + 1, none⟩ = some (.bool ((K + 1) % 3 == 0)) := (HC.out.below HB0.out hbw).c1
      have x0 : ∀ X : In (Up wr), X.w.cell? ⟨b, off + j * 2, none⟩ = some (.string (mtB (K))) := fun X => Up.cell X d0
      have xn : Nonempty (In (Up wr)) := ⟨⟨wr, Below.refl _ _⟩⟩
      have xs := fun (X : In (Up wr)) => in_self X
      go_wp2
      clear d0 d1
      refine wp_region_class (Up wr) (by kernel_rfl) (by kernel_rfl) ((Below.refl _ _).drew) ?_
      repeat (go_big_quiet_step (first | (go_at_call 72; rename_i X; exact (markText_any _ _ (by omega)).mono fun _ _ h => ⟨h.1, Up.next X h.2⟩)))
      refine wpQuiet_nil ?_
      intro w1 hw
      obtain ⟨Y, hY⟩ := hw
      have HB1 : Hid (Below w.heap.size w w1) := HB0.out.trans (Below.mono (show Below wr.heap.size wr w1 by rw [hY]; exact Y.h) HB0.out.size)
      clear hY Y x0 xs xn HB0
      have d0 : w1.cell? ⟨b, off + j * 2, none⟩ = some (.string (mtB (K))) := (HC.out.below HB1.out hbw).c0
      have d1 : w1.cell? ⟨b, off + j * 2 + 1, none⟩ = some (.bool ((K + 1) % 3 == 0)) := (HC.out.below HB1.out hbw).c1
      go_wp2
      clear d0 d1
      have HW : Hid (wdBe Xl[j] = 2) := by unfold Hid; rw [← HXX.out]; rfl
      have HQ : Hid ((K + 1 + 1 : Int) = k + (posBe Xl (j + 1) : Int)) := by
        have h1 := HP.out
        have h2 := HW.out
        have h3 := HK.out
        unfold Hid
        omega
      go_roundw
      case rel => exact ⟨j + 1, by go_num, congrArg (Value.int .i64) HQ.out, by omega, HB1.out⟩
      case measure => simp [intOf]; omega
    · have e : j = Xl.length := by omega
      subst e
      go_wp2
      go_ret
      exact ⟨rfl, HB0.out⟩
end Go.Proofs.YtaogpeebencnoaaGreatDoor
