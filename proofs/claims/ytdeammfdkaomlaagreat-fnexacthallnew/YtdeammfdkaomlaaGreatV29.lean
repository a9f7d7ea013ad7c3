import Derived.Test.YtdeammfdkaomlaaGreatV26
namespace Go.Proofs.YtdeammfdkaomlaaGreat
open Go.RowKit Go.Deep

set_option maxRecDepth 20000 in
set_option maxHeartbeats 8000000 in
theorem heldGrs_any (lo hi : Nat) (v : Value) (Xl : List Gr) (k : Int) (w : World) (hv : GrsOwn lo hi w v (mkGrs k Xl)) (hn : GrsSmall Xl) (h0 : 0 ≤ k) (hk : k ≤ 2000000000000000000) :
    Calls Tryz.prog 114 #[v, .int .i64 k] w fun e w' => e = .returned (.int .i64 (k + (posGr Xl Xl.length : Int))) ∧ Below w.heap.size w w' := by
  have HA := hide hv.at
  have HN := hide hn
  have hlen := hn.1
  obtain ⟨a, cap, hv'⟩ := hv.form
  rw [mkGrs_len] at hv'
  subst hv'
  clear hv hn
  go_enter Tryz.func114, Tryz.ntmps114
  go_wp2
  go_loopw [5, 1] (fun i q wr => ∃ j : Nat, i = .int .i64 j ∧ q = .int .i64 (k + (posGr Xl j : Int)) ∧ j ≤ Xl.length ∧ Below w.heap.size w wr) (fun i _ _ => Xl.length - (intOf i).toNat)
  case atStart => exact ⟨0, rfl, by simp [posGr], by omega, Below.refl _ _⟩
  case round =>
    obtain ⟨j, rfl, rfl, hj, hb⟩ := hrel
    have HB0 := hide hb
    clear hb
    by_cases hlt : j < Xl.length
    · obtain ⟨b, off, rfl, hbw, -, hc⟩ := HA.out.full' (by rw [mkGrs_len]; omega)
      have hcj := hc j (by rw [mkGrs_len]; omega)
      rw [mkGrs_get _ _ _ _ hlt] at hcj
      have hpos := posGr_le HN.out (i := j) (by omega)
      have HP := hide (posGr_succ hlt)
      obtain ⟨x, hx⟩ : ∃ x, x = Xl[j] := ⟨_, rfl⟩
      rw [← hx] at hcj
      have hs0 : x.vb.length ≤ 1048576 := by have := HN.out.2 j hlt; rw [hx]; unfold GrSmall at this; omega
      have HXX := hide hx
      obtain ⟨K, hK⟩ : ∃ K, K = k + (posGr Xl j : Int) := ⟨_, rfl⟩
      rw [← hK] at hcj
      rw [← hK]
      have hK0 : 0 ≤ K := by omega
      have hK1 : K ≤ 2500000000000000000 := by omega
      have HK := hide hK
      obtain ⟨_, vv0, hcl, g0⟩ := hcj
      have HC := hide hcl
      have HL0 : Hid (IntsIn lo w vv0 (imarks (K + 1 + 1 + 1) x.vb.length)) := g0
      obtain ⟨va0, vc0, rfl⟩ := HL0.out.form
      rw [imarks_len] at HC HL0
      clear hc hcl hx hK hpos
      have d0 : wr.cell? ⟨b, off + j * 7, none⟩ = some (.int .i64 (K)) := (HC.out.below HB0.out hbw).c0
      have d1 : wr.cell? ⟨b, off + j * 7 + 1, none⟩ = some (.string (mtB (K + 1))) := (HC.out.below HB0.out hbw).c1
      have d2 : wr.cell? ⟨b, off + j * 7 + 2, none⟩ = some (.string (mtB (K + 1 + 1))) := (HC.out.below HB0.out hbw).c2
      have d3 : wr.cell? ⟨b, off + j * 7 + 3, none⟩ = some (.slice va0 x.vb.length vc0) := (HC.out.below HB0.out hbw).c3
      have d4 : wr.cell? ⟨b, off + j * 7 + 4, none⟩ = some (.string (mtB (K + 1 + 1 + 1 + (x.vb.length : Int)))) := (HC.out.below HB0.out hbw).c4
      have d5 : wr.cell? ⟨b, off + j * 7 + 5, none⟩ = some (.string (mtB (K + 1 + 1 + 1 + (x.vb.length : Int) + 1))) := (HC.out.below HB0.out hbw).c5
      have d6 : wr.cell? ⟨b, off + j * 7 + 6, none⟩ = some (.string (mtB (K + 1 + 1 + 1 + (x.vb.length : Int) + 1 + 1))) := (HC.out.below HB0.out hbw).c6
      have x0 : ∀ X : In (Upo wr), X.w.cell? ⟨b, off + j * 7 + 1, none⟩ = some (.string (mtB (K + 1))) := fun X => Upo.cell X d1
      have xn : Nonempty (In (Upo wr)) := ⟨⟨wr, Below.refl _ _⟩⟩
      have xs := fun (X : In (Upo wr)) => in_self X
      go_wp2
      clear d0 d1 d2 d3 d4 d5 d6
      refine wp_region_class (Upo wr) (by kernel_rfl) (by kernel_rfl) ((Below.refl _ _).drew) ?_
      repeat (go_big_quiet_step (first | (go_at_call 84; rename_i X; exact (markText_any _ _ (by omega)).mono fun _ _ h => ⟨h.1, Upo.next X h.2⟩)))
      refine wpQuiet_nil ?_
      intro w1 hw
      obtain ⟨Y, hY⟩ := hw
      have HB1 : Hid (Below w.heap.size w w1) := HB0.out.trans (Below.mono (show Below wr.heap.size wr w1 by rw [hY]; exact Y.h) HB0.out.size)
      clear hY Y x0 xs xn HB0
      have d0 : w1.cell? ⟨b, off + j * 7, none⟩ = some (.int .i64 (K)) := (HC.out.below HB1.out hbw).c0
      have d1 : w1.cell? ⟨b, off + j * 7 + 1, none⟩ = some (.string (mtB (K + 1))) := (HC.out.below HB1.out hbw).c1
      have d2 : w1.cell? ⟨b, off + j * 7 + 2, none⟩ = some (.string (mtB (K + 1 + 1))) := (HC.out.below HB1.out hbw).c2
      have d3 : w1.cell? ⟨b, off + j * 7 + 3, none⟩ = some (.slice va0 x.vb.length vc0) := (HC.out.below HB1.out hbw).c3
      have d4 : w1.cell? ⟨b, off + j * 7 + 4, none⟩ = some (.string (mtB (K + 1 + 1 + 1 + (x.vb.length : Int)))) := (HC.out.below HB1.out hbw).c4
      have d5 : w1.cell? ⟨b, off + j * 7 + 5, none⟩ = some (.string (mtB (K + 1 + 1 + 1 + (x.vb.length : Int) + 1))) := (HC.out.below HB1.out hbw).c5
      have d6 : w1.cell? ⟨b, off + j * 7 + 6, none⟩ = some (.string (mtB (K + 1 + 1 + 1 + (x.vb.length : Int) + 1 + 1))) := (HC.out.below HB1.out hbw).c6
      have x0 : ∀ X : In (Upo w1), X.w.cell? ⟨b, off + j * 7 + 2, none⟩ = some (.string (mtB (K + 1 + 1))) := fun X => Upo.cell X d2
      have xn : Nonempty (In (Upo w1)) := ⟨⟨w1, Below.refl _ _⟩⟩
      have xs := fun (X : In (Upo w1)) => in_self X
      go_wp2
      clear d0 d1 d2 d3 d4 d5 d6
      refine wp_region_class (Upo w1) (by kernel_rfl) (by kernel_rfl) ((Below.refl _ _).drew) ?_
      repeat (go_big_quiet_step (first | (go_at_call 84; rename_i X; exact (markText_any _ _ (by omega)).mono fun _ _ h => ⟨h.1, Upo.next X h.2⟩)))
      refine wpQuiet_nil ?_
      intro w2 hw
      obtain ⟨Y, hY⟩ := hw
      have HB2 : Hid (Below w.heap.size w w2) := HB1.out.trans (Below.mono (show Below w1.heap.size w1 w2 by rw [hY]; exact Y.h) HB1.out.size)
      clear hY Y x0 xs xn HB1
      have d0 : w2.cell? ⟨b, off + j * 7, none⟩ = some (.int .i64 (K)) := (HC.out.below HB2.out hbw).c0
      have d1 : w2.cell? ⟨b, off + j * 7 + 1, none⟩ = some (.string (mtB (K + 1))) := (HC.out.below HB2.out hbw).c1
      have d2 : w2.cell? ⟨b, off + j * 7 + 2, none⟩ = some (.string (mtB (K + 1 + 1))) := (HC.out.below HB2.out hbw).c2
      have d3 : w2.cell? ⟨b, off + j * 7 + 3, none⟩ = some (.slice va0 x.vb.length vc0) := (HC.out.below HB2.out hbw).c3
      have d4 : w2.cell? ⟨b, off + j * 7 + 4, none⟩ = some (.string (mtB (K + 1 + 1 + 1 + (x.vb.length : Int)))) := (HC.out.below HB2.out hbw).c4
      have d5 : w2.cell? ⟨b, off + j * 7 + 5, none⟩ = some (.string (mtB (K + 1 + 1 + 1 + (x.vb.length : Int) + 1))) := (HC.out.below HB2.out hbw).c5
      have d6 : w2.cell? ⟨b, off + j * 7 + 6, none⟩ = some (.string (mtB (K + 1 + 1 + 1 + (x.vb.length : Int) + 1 + 1))) := (HC.out.below HB2.out hbw).c6
      go_wp2_with fail
      clear d0 d1 d2 d3 d4 d5 d6
      refine (heldInts_any lo _ x.vb.length _ _ (HL0.out.below HB2.out) (by omega) (by omega)).mono ?_
      rintro e w3 ⟨rfl, hb⟩
      have HB3 : Hid (Below w.heap.size w w3) := HB2.out.trans (hb.mono HB2.out.size)
      clear hb HB2
      have hg3 : decide (K + 1 + 1 + 1 + (x.vb.length : Int) < 0) = false := by simp; omega
      have d0 : w3.cell? ⟨b, off + j * 7, none⟩ = some (.int .i64 (K)) := (HC.out.below HB3.out hbw).c0
      have d1 : w3.cell? ⟨b, off + j * 7 + 1, none⟩ = some (.string (mtB (K + 1))) := (HC.out.below HB3.out hbw).c1
      have d2 : w3.cell? ⟨b, off + j * 7 + 2, none⟩ = some (.string (mtB (K + 1 + 1))) := (HC.out.below HB3.out hbw).c2
      have d3 : w3.cell? ⟨b, off + j * 7 + 3, none⟩ = some (.slice va0 x.vb.length vc0) := (HC.out.below HB3.out hbw).c3
      have d4 : w3.cell? ⟨b, off + j * 7 + 4, none⟩ = some (.string (mtB (K + 1 + 1 + 1 + (x.vb.length : Int)))) := (HC.out.below HB3.out hbw).c4
      have d5 : w3.cell? ⟨b, off + j * 7 + 5, none⟩ = some (.string (mtB (K + 1 + 1 + 1 + (x.vb.length : Int) + 1))) := (HC.out.below HB3.out hbw).c5
      have d6 : w3.cell? ⟨b, off + j * 7 + 6, none⟩ = some (.string (mtB (K + 1 + 1 + 1 + (x.vb.length : Int) + 1 + 1))) := (HC.out.below HB3.out hbw).c6
      have x0 : ∀ X : In (Upo w3), X.w.cell? ⟨b, off + j * 7 + 4, none⟩ = some (.string (mtB (K + 1 + 1 + 1 + (x.vb.length : Int)))) := fun X => Upo.cell X d4
      have xn : Nonempty (In (Upo w3)) := ⟨⟨w3, Below.refl _ _⟩⟩
      have xs := fun (X : In (Upo w3)) => in_self X
      go_wp2
      clear d0 d1 d2 d3 d4 d5 d6
      refine wp_region_class (Upo w3) (by kernel_rfl) (by kernel_rfl) ((Below.refl _ _).drew) ?_
      repeat (go_big_quiet_step (first | (go_at_call 84; rename_i X; exact (markText_any _ _ (by omega)).mono fun _ _ h => ⟨h.1, Upo.next X h.2⟩)))
      refine wpQuiet_nil ?_
      intro w4 hw
      obtain ⟨Y, hY⟩ := hw
      have HB4 : Hid (Below w.heap.size w w4) := HB3.out.trans (Below.mono (show Below w3.heap.size w3 w4 by rw [hY]; exact Y.h) HB3.out.size)
      clear hY Y x0 xs xn HB3
      have d0 : w4.cell? ⟨b, off + j * 7, none⟩ = some (.int .i64 (K)) := (HC.out.below HB4.out hbw).c0
      have d1 : w4.cell? ⟨b, off + j * 7 + 1, none⟩ = some (.string (mtB (K + 1))) := (HC.out.below HB4.out hbw).c1
      have d2 : w4.cell? ⟨b, off + j * 7 + 2, none⟩ = some (.string (mtB (K + 1 + 1))) := (HC.out.below HB4.out hbw).c2
      have d3 : w4.cell? ⟨b, off + j * 7 + 3, none⟩ = some (.slice va0 x.vb.length vc0) := (HC.out.below HB4.out hbw).c3
      have d4 : w4.cell? ⟨b, off + j * 7 + 4, none⟩ = some (.string (mtB (K + 1 + 1 + 1 + (x.vb.length : Int)))) := (HC.out.below HB4.out hbw).c4
      have d5 : w4.cell? ⟨b, off + j * 7 + 5, none⟩ = some (.string (mtB (K + 1 + 1 + 1 + (x.vb.length : Int) + 1))) := (HC.out.below HB4.out hbw).c5
      have d6 : w4.cell? ⟨b, off + j * 7 + 6, none⟩ = some (.string (mtB (K + 1 + 1 + 1 + (x.vb.length : Int) + 1 + 1))) := (HC.out.below HB4.out hbw).c6
      have x0 : ∀ X : In (Upo w4), X.w.cell? ⟨b, off + j * 7 + 5, none⟩ = some (.string (mtB (K + 1 + 1 + 1 + (x.vb.length : Int) + 1))) := fun X => Upo.cell X d5
      have xn : Nonempty (In (Upo w4)) := ⟨⟨w4, Below.refl _ _⟩⟩
      have xs := fun (X : In (Upo w4)) => in_self X
      go_wp2
      clear d0 d1 d2 d3 d4 d5 d6
      refine wp_region_class (Upo w4) (by kernel_rfl) (by kernel_rfl) ((Below.refl _ _).drew) ?_
      repeat (go_big_quiet_step (first | (go_at_call 84; rename_i X; exact (markText_any _ _ (by omega)).mono fun _ _ h => ⟨h.1, Upo.next X h.2⟩)))
      refine wpQuiet_nil ?_
      intro w5 hw
      obtain ⟨Y, hY⟩ := hw
      have HB5 : Hid (Below w.heap.size w w5) := HB4.out.trans (Below.mono (show Below w4.heap.size w4 w5 by rw [hY]; exact Y.h) HB4.out.size)
      clear hY Y x0 xs xn HB4
      have d0 : w5.cell? ⟨b, off + j * 7, none⟩ = some (.int .i64 (K)) := (HC.out.below HB5.out hbw).c0
      have d1 : w5.cell? ⟨b, off + j * 7 + 1, none⟩ = some (.string (mtB (K + 1))) := (HC.out.below HB5.out hbw).c1
      have d2 : w5.cell? ⟨b, off + j * 7 + 2, none⟩ = some (.string (mtB (K + 1 + 1))) := (HC.out.below HB5.out hbw).c2
      have d3 : w5.cell? ⟨b, off + j * 7 + 3, none⟩ = some (.slice va0 x.vb.length vc0) := (HC.out.below HB5.out hbw).c3
      have d4 : w5.cell? ⟨b, off + j * 7 + 4, none⟩ = some (.string (mtB (K + 1 + 1 + 1 + (x.vb.length : Int)))) := (HC.out.below HB5.out hbw).c4
      have d5 : w5.cell? ⟨b, off + j * 7 + 5, none⟩ = some (.string (mtB (K + 1 + 1 + 1 + (x.vb.length : Int) + 1))) := (HC.out.below HB5.out hbw).c5
      have d6 : w5.cell? ⟨b, off + j * 7 + 6, none⟩ = some (.string (mtB (K + 1 + 1 + 1 + (x.vb.length : Int) + 1 + 1))) := (HC.out.below HB5.out hbw).c6
      have x0 : ∀ X : In (Upo w5), X.w.cell? ⟨b, off + j * 7 + 6, none⟩ = some (.string (mtB (K + 1 + 1 + 1 + (x.vb.length : Int) + 1 + 1))) := fun X => Upo.cell X d6
      have xn : Nonempty (In (Upo w5)) := ⟨⟨w5, Below.refl _ _⟩⟩
      have xs := fun (X : In (Upo w5)) => in_self X
      go_wp2
      clear d0 d1 d2 d3 d4 d5 d6
      refine wp_region_class (Upo w5) (by kernel_rfl) (by kernel_rfl) ((Below.refl _ _).drew) ?_
      repeat (go_big_quiet_step (first | (go_at_call 84; rename_i X; exact (markText_any _ _ (by omega)).mono fun _ _ h => ⟨h.1, Upo.next X h.2⟩)))
      refine wpQuiet_nil ?_
      intro w6 hw
      obtain ⟨Y, hY⟩ := hw
      have HB6 : Hid (Below w.heap.size w w6) := HB5.out.trans (Below.mono (show Below w5.heap.size w5 w6 by rw [hY]; exact Y.h) HB5.out.size)
      clear hY Y x0 xs xn HB5
      have d0 : w6.cell? ⟨b, off + j * 7, none⟩ = some (.int .i64 (K)) := (HC.out.below HB6.out hbw).c0
      have d1 : w6.cell? ⟨b, off + j * 7 + 1, none⟩ = some (.string (mtB (K + 1))) := (HC.out.below HB6.out hbw).c1
      have d2 : w6.cell? ⟨b, off + j * 7 + 2, none⟩ = some (.string (mtB (K + 1 + 1))) := (HC.out.below HB6.out hbw).c2
      have d3 : w6.cell? ⟨b, off + j * 7 + 3, none⟩ = some (.slice va0 x.vb.length vc0) := (HC.out.below HB6.out hbw).c3
      have d4 : w6.cell? ⟨b, off + j * 7 + 4, none⟩ = some (.string (mtB (K + 1 + 1 + 1 + (x.vb.length : Int)))) := (HC.out.below HB6.out hbw).c4
      have d5 : w6.cell? ⟨b, off + j * 7 + 5, none⟩ = some (.string (mtB (K + 1 + 1 + 1 + (x.vb.length : Int) + 1))) := (HC.out.below HB6.out hbw).c5
      have d6 : w6.cell? ⟨b, off + j * 7 + 6, none⟩ = some (.string (mtB (K + 1 + 1 + 1 + (x.vb.length : Int) + 1 + 1))) := (HC.out.below HB6.out hbw).c6
      go_wp2
      clear d0 d1 d2 d3 d4 d5 d6
      have HW : Hid (wdGr Xl[j] = 6 + x.vb.length) := by unfold Hid; rw [← HXX.out]; rfl
      have HQ : Hid ((K + 1 + 1 + 1 + (x.vb.length : Int) + 1 + 1 + 1 : Int) = k + (posGr Xl (j + 1) : Int)) := by
        have h1 := HP.out
        have h2 := HW.out
        have h3 := HK.out
        unfold Hid
        omega
      go_roundw
      case rel => exact ⟨j + 1, by go_num, congrArg (Value.int .i64) HQ.out, by omega, HB6.out⟩
      case measure => simp [intOf]; omega
    · have e : j = Xl.length := by omega
      subst e
      go_wp2
      go_ret
      exact ⟨rfl, HB0.out⟩
end Go.Proofs.YtdeammfdkaomlaaGreat
