import Derived.Test.YtmaagbnjpdijnaaYOWX
import Derived.Test.YtmaagbnjpdijnaaYTD
import Derived.Test.YtmaagbnjpdijnaaYTA
import Derived.Test.YtmaagbnjpdijnaaYA1
import Derived.Test.YtmaagbnjpdijnaaYM1
namespace Go.Proofs.Ytmaagbnjpdijnaa
open Go.RowKit Go.Deep

set_option maxRecDepth 20000 in
set_option maxHeartbeats 8000000 in
theorem heldTms_any (lo hi : Nat) (v : Value) (Xl : List Tm) (k : Int) (w : World) (hv : TmsOwn lo hi w v (mkTms k Xl)) (hn : TmsSmall Xl) (h0 : 0 ≤ k) (hk : k ≤ 2000000000000000000) :
    Calls Try.prog 42 #[v, .int .i64 k] w fun e w' => e = .returned (.int .i64 (k + (posTm Xl Xl.length : Int))) ∧ Below w.heap.size w w' := by
  have HA := hide hv.at
  have HN := hide hn
  have hlen := hn.1
  obtain ⟨a, cap, hv'⟩ := hv.form
  rw [mkTms_len] at hv'
  subst hv'
  clear hv hn
  go_enter Try.func42, Try.ntmps42
  go_wp2
  go_loopw [5, 1] (fun i q wr => ∃ j : Nat, i = .int .i64 j ∧ q = .int .i64 (k + (posTm Xl j : Int)) ∧ j ≤ Xl.length ∧ Below w.heap.size w wr) (fun i _ _ => Xl.length - (intOf i).toNat)
  case atStart => exact ⟨0, rfl, by simp [posTm], by omega, Below.refl _ _⟩
  case round =>
    obtain ⟨j, rfl, rfl, hj, hb⟩ := hrel
    have HB0 := hide hb
    clear hb
    by_cases hlt : j < Xl.length
    · obtain ⟨b, off, rfl, hbw, hc⟩ := HA.out.full' (by rw [mkTms_len]; omega)
      have hcj := hc j (by rw [mkTms_len]; omega)
      rw [mkTms_get _ _ _ _ hlt] at hcj
      have hpos := posTm_le HN.out (i := j) (by omega)
      have HP := hide (posTm_succ hlt)
      obtain ⟨x, hx⟩ : ∃ x, x = Xl[j] := ⟨_, rfl⟩
      rw [← hx] at hcj
      have HXX := hide hx
      obtain ⟨K, hK⟩ : ∃ K, K = k + (posTm Xl j : Int) := ⟨_, rfl⟩
      rw [← hK] at hcj
      rw [← hK]
      have hK0 : 0 ≤ K := by omega
      have hK1 : K ≤ 2500000000000000000 := by omega
      have HK := hide hK
      obtain ⟨_, hcl⟩ := hcj
      have HC := hide hcl
      clear hc hcl hx hK hpos
      have d0 : wr.cell? ⟨b, off + j * 2, none⟩ = some (.string (mtB (K))) := (HC.out.below HB0.out hbw).c0
      have d1 : wr.cell? ⟨b, off + j * 2 + 1, none⟩ = some (.string (mtB (K + 1))) := (HC.out.below HB0.out hbw).c1
      have x0 : ∀ X : In (Upo wr), X.w.cell? ⟨b, off + j * 2, none⟩ = some (.string (mtB (K))) := fun X => Upo.cell X d0
      have xn : Nonempty (In (Upo wr)) := ⟨⟨wr, Below.refl _ _⟩⟩
      have xs := fun (X : In (Upo wr)) => in_self X
      go_wp2
      clear d0 d1
      refine wp_region_class (Upo wr) (by kernel_rfl) (by kernel_rfl) ((Below.refl _ _).drew) ?_
      repeat (go_big_quiet_step (first | (go_at_call 70; rename_i X; exact (markText_any _ _ (by omega)).mono fun _ _ h => ⟨h.1, Upo.next X h.2⟩)))
      refine wpQuiet_nil ?_
      intro w1 hw
      obtain ⟨Y, hY⟩ := hw
      have HB1 : Hid (Below w.heap.size w w1) := HB0.out.trans (Below.mono (show Below wr.heap.size wr w1 by rw [hY]; exact Y.h) HB0.out.size)
      clear hY Y x0 xs xn HB0
      have d0 : w1.cell? ⟨b, off + j * 2, none⟩ = some (.string (mtB (K))) := (HC.out.below HB1.out hbw).c0
      have d1 : w1.cell? ⟨b, off + j * 2 + 1, none⟩ = some (.string (mtB (K + 1))) := (HC.out.below HB1.out hbw).c1
      have x0 : ∀ X : In (Upo w1), X.w.cell? ⟨b, off + j * 2 + 1, none⟩ = some (.string (mtB (K + 1))) := fun X => Upo.cell X d1
      have xn : Nonempty (In (Upo w1)) := ⟨⟨w1, Below.refl _ _⟩⟩
      have xs := fun (X : In (Upo w1)) => in_self X
      go_wp2
      clear d0 d1
      refine wp_region_class (Upo w1) (by kernel_rfl) (by kernel_rfl) ((Below.refl _ _).drew) ?_
      repeat (go_big_quiet_step (first | (go_at_call 70; rename_i X; exact (markText_any _ _ (by omega)).mono fun _ _ h => ⟨h.1, Upo.next X h.2⟩)))
      refine wpQuiet_nil ?_
      intro w2 hw
      obtain ⟨Y, hY⟩ := hw
      have HB2 : Hid (Below w.heap.size w w2) := HB1.out.trans (Below.mono (show Below w1.heap.size w1 w2 by rw [hY]; exact Y.h) HB1.out.size)
      clear hY Y x0 xs xn HB1
      have d0 : w2.cell? ⟨b, off + j * 2, none⟩ = some (.string (mtB (K))) := (HC.out.below HB2.out hbw).c0
      have d1 : w2.cell? ⟨b, off + j * 2 + 1, none⟩ = some (.string (mtB (K + 1))) := (HC.out.below HB2.out hbw).c1
      go_wp2
      clear d0 d1
      have HW : Hid (wdTm Xl[j] = 2) := by unfold Hid; rw [← HXX.out]; rfl
      have HQ : Hid ((K + 1 + 1 : Int) = k + (posTm Xl (j + 1) : Int)) := by
        have h1 := HP.out
        have h2 := HW.out
        have h3 := HK.out
        unfold Hid
        omega
      go_roundw
      case rel => exact ⟨j + 1, by go_num, congrArg (Value.int .i64) HQ.out, by omega, HB2.out⟩
      case measure => simp [intOf]; omega
    · have e : j = Xl.length := by omega
      subst e
      go_wp2
      go_ret
      exact ⟨rfl, HB0.out⟩
end Go.Proofs.Ytmaagbnjpdijnaa

