
import Derived.Test.YtlednecohppljaaGS
namespace Go.Proofs.Ytlednecohppljaa
open Go.RowKit Go.Deep

set_option maxRecDepth 20000 in
set_option maxHeartbeats 8000000 in
theorem heldRss_any (lo hi : Nat) (v : Value) (Xl : List Rs) (k : Int) (w : World) (hv : RssOwn lo hi w v (mkRss k Xl)) (hn : RssSmall Xl) (h0 : 0 ≤ k) (hk : k ≤ 2000000000000000000) :
    Calls Try.prog 11 #[v, .int .i64 k] w fun e w' => e = .returned (.int .i64 (k + (posRs Xl Xl.length : Int))) ∧ Below w.heap.size w w' := by
  have HA := hide hv.at
  have HN := hide hn
  have hlen := hn.1
  obtain ⟨a, cap, hv'⟩ := hv.form
  rw [mkRss_len] at hv'
  subst hv'
  clear hv hn
  go_enter Try.func11, Try.ntmps11
  go_wp2
  go_loopw [5, 1] (fun i q wr => ∃ j : Nat, i = .int .i64 j ∧ q = .int .i64 (k + (posRs Xl j : Int)) ∧ j ≤ Xl.length ∧ Below w.heap.size w wr) (fun i _ _ => Xl.length - (intOf i).toNat)
  case atStart => exact ⟨0, rfl, by simp [posRs], by omega, Below.refl _ _⟩
  case round =>
    obtain ⟨j, rfl, rfl, hj, hb⟩ := hrel
    have HB0 := hide hb
    clear hb
    by_cases hlt : j < Xl.length
    · obtain ⟨b, off, rfl, hbw, -, hc⟩ := HA.out.full' (by rw [mkRss_len]; omega)
      have hcj := hc j (by rw [mkRss_len]; omega)
      rw [mkRss_get _ _ _ _ hlt] at hcj
      have hpos := posRs_le HN.out (i := j) (by omega)
      have HP := hide (posRs_succ hlt)
      obtain ⟨x, hx⟩ : ∃ x, x = Xl[j] := ⟨_, rfl⟩
      rw [← hx] at hcj
      have HXX := hide hx
      obtain ⟨K, hK⟩ : ∃ K, K = k + (posRs Xl j : Int) := ⟨_, rfl⟩
      rw [← hK] at hcj
      rw [← hK]
      have hK0 : 0 ≤ K := by omega
      have hK1 : K ≤ 2500000000000000000 := by omega
      have HK := hide hK
      obtain ⟨_, hcl⟩ := hcj
      have HC := hide hcl
      clear hc hcl hx hK hpos
      have d0 : wr.cell? ⟨b, off + j * 2, none⟩ = some (.int .i64 (K)) := (HC.out.below HB0.out hbw).c0
      have d1 : wr.cell? ⟨b, off + j * 2 + 1, none⟩ = some (.string (mtB (K + 1))) := (HC.out.below HB0.out hbw).c1
      have x0 : ∀ X : In (Up wr), X.w.cell? ⟨b, off + j * 2 + 1, none⟩ = some (.string (mtB (K + 1))) := fun X => Up.cell X d1
      have xn : Nonempty (In (Up wr)) := ⟨⟨wr, Below.refl _ _⟩⟩
      have xs := fun (X : In (Up wr)) => in_self X
      go_wp2
      clear d0 d1
      refine wp_region_class (Up wr) (by kernel_rfl) (by kernel_rfl) ((Below.refl _ _).drew) ?_
      repeat (go_big_quiet_step (first | (go_at_call 28; rename_i X; exact (markText_any _ _ (by omega)).mono fun _ _ h => ⟨h.1, Up.next X h.2⟩)))
      refine wpQuiet_nil ?_
      intro w1 hw
      obtain ⟨Y, hY⟩ := hw
      have HB1 : Hid (Below w.heap.size w w1) := HB0.out.trans (Below.mono (show Below wr.heap.size wr w1 by rw [hY]; exact Y.h) HB0.out.size)
      clear hY Y x0 xs xn HB0
      have d0 : w1.cell? ⟨b, off + j * 2, none⟩ = some (.int .i64 (K)) := (HC.out.below HB1.out hbw).c0
      have d1 : w1.cell? ⟨b, off + j * 2 + 1, none⟩ = some (.string (mtB (K + 1))) := (HC.out.below HB1.out hbw).c1
      go_wp2
      clear d0 d1
      have HW : Hid (wdRs Xl[j] = 2) := by unfold Hid; rw [← HXX.out]; rfl
      have HQ : Hid ((K + 1 + 1 : Int) = k + (posRs Xl (j + 1) : Int)) := by
        have h1 := HP.out
        have h2 := HW.out
        have h3 := HK.out
        unfold Hid
        omega
      go_roundw
      case rel => exact ⟨j + 1, by go_num, congrArg (Value.int .i64) HQ.out, by omega, HB1.out⟩
      case measure => simp [intOf]; omega
    · have e : j = Xl.length := by omega
      subst e
      go_wp2
      go_ret
      exact ⟨rfl, HB0.out⟩
end Go.Proofs.Ytlednecohppljaa
