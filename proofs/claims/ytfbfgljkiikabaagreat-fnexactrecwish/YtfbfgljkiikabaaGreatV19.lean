import Derived.Test.YtfbfgljkiikabaaGreatV10
namespace Go.Proofs.YtfbfgljkiikabaaGreat
open Go.RowKit Go.Deep

theorem heldRss_two (lo hi : Nat) (v : Value) (Xl : List Rs) (k : Int) (w : World) (hv : RssOwn lo hi w v (mkRss k Xl)) (hn : RssSmall Xl) (h0 : 0 ≤ k) (hk : k ≤ 2000000000000000000) :
    Calls Tryz.prog 58 #[v, .int .i64 k] w fun e w' => e = .returned (.int .i64 (k + 2 * (Xl.length : Int))) ∧ Below w.heap.size w w' := by
  have := heldRss_any lo hi v Xl k w hv hn h0 hk
  rw [posRs_all2] at this
  simpa using this

theorem RmsOwn.fullO {lo hi : Nat} {w : World} {a : Option Addr} {n cap : Nat} {Xl : List Rm} (h : RmsOwn lo hi w (.slice a n cap) Xl) (hL : 0 < Xl.length) :
    ∃ b off, a = some ⟨b, off, none⟩ ∧ b < w.heap.size ∧ ∀ i (h : i < Xl.length), ∃ l0 u0 vv0, RmCells w b (off + i * 8) Xl[i] vv0 ∧ RssOwn l0 u0 w vv0 Xl[i].sl := by
  rcases h with ⟨a', cap', h, rfl⟩ | ⟨b, off, cap', c, X, h1, h2, h3, h4, h5, h6⟩
  · simp at hL
  · injection h1 with e1 e2 e3
    refine ⟨b, off, e1, h6.lt, fun i hi' => ?_⟩
    have hr := h6.row i hi'
    rw [h5 i hi'] at hr
    obtain ⟨hs, vv0, q0, hc, l0⟩ := hr
    exact ⟨_, _, vv0, hc, l0⟩
set_option maxRecDepth 20000 in
set_option maxHeartbeats 8000000 in
theorem heldRms_any (lo hi : Nat) (v : Value) (Xl : List Rm) (k : Int) (w : World) (hv : RmsOwn lo hi w v (mkRms k Xl)) (hn : RmsSmall Xl) (h0 : 0 ≤ k) (hk : k ≤ 1900000000000000000) :
    Calls Tryz.prog 23 #[v, .int .i64 k] w fun e w' => e = .returned (.int .i64 (k + (posRm Xl Xl.length : Int))) ∧ Below w.heap.size w w' := by
  have HA := hide hv
  have HN := hide hn
  have hlen := hn.1
  obtain ⟨a, cap, hv'⟩ := hv.form
  rw [mkRms_len] at hv'
  subst hv'
  clear hv hn
  go_enter Tryz.func23, Tryz.ntmps23
  go_wp2
  go_loopw [5, 1] (fun i q wr => ∃ j : Nat, i = .int .i64 j ∧ q = .int .i64 (k + (posRm Xl j : Int)) ∧ j ≤ Xl.length ∧ Below w.heap.size w wr) (fun i _ _ => Xl.length - (intOf i).toNat)
  case atStart => exact ⟨0, rfl, by simp [posRm], by omega, Below.refl _ _⟩
  case round =>
    obtain ⟨j, rfl, rfl, hj, hb⟩ := hrel
    have HB0 := hide hb
    clear hb
    by_cases hlt : j < Xl.length
    · obtain ⟨b, off, rfl, hbw, hc⟩ := HA.out.fullO (by rw [mkRms_len]; omega)
      have hcj := hc j (by rw [mkRms_len]; omega)
      rw [mkRms_get _ _ _ _ hlt] at hcj
      have hpos := posRm_le HN.out (i := j) (by omega)
      have HP := hide (posRm_succ hlt)
      obtain ⟨x, hx⟩ : ∃ x, x = Xl[j] := ⟨_, rfl⟩
      rw [← hx] at hcj
      have hs0 : RssSmall x.sl := by rw [hx]; exact HN.out.2 j hlt
      have hs0n := hs0.1
      have HXX := hide hx
      obtain ⟨K, hK⟩ : ∃ K, K = k + (posRm Xl j : Int) := ⟨_, rfl⟩
      rw [← hK] at hcj
      rw [← hK]
      have hK0 : 0 ≤ K := by omega
      have hK1 : K ≤ 1950000000000000000 := by omega
      have HK := hide hK
      obtain ⟨l0, u0, vv0, hcl, g0⟩ := hcj
      have HC := hide hcl
      have HL0 : Hid (RssOwn l0 u0 w vv0 (mkRss (K + 1 + 1 + 1 + 1 + 1 + 1 + 1) x.sl)) := g0
      obtain ⟨va0, vc0, rfl⟩ := HL0.out.form
      rw [mkRss_len] at HC HL0
      clear hc hcl hx hK hpos
      have d0 : wr.cell? ⟨b, off + j * 8, none⟩ = some (.int .i64 (K)) := (HC.out.below HB0.out hbw).c0
      have d1 : wr.cell? ⟨b, off + j * 8 + 1, none⟩ = some (.int .i64 (K + 1)) := (HC.out.below HB0.out hbw).c1
      have d2 : wr.cell? ⟨b, off + j * 8 + 2, none⟩ = some (.int .i64 (K + 1 + 1)) := (HC.out.below HB0.out hbw).c2
      have d3 : wr.cell? ⟨b, off + j * 8 + 3, none⟩ = some (.int .i64 (K + 1 + 1 + 1)) := (HC.out.below HB0.out hbw).c3
      have d4 : wr.cell? ⟨b, off + j * 8 + 4, none⟩ = some (.int .i64 (K + 1 + 1 + 1 + 1)) := (HC.out.below HB0.out hbw).c4
      have d5 : wr.cell? ⟨b, off + j * 8 + 5, none⟩ = some (.int .i64 (K + 1 + 1 + 1 + 1 + 1)) := (HC.out.below HB0.out hbw).c5
      have d6 : wr.cell? ⟨b, off + j * 8 + 6, none⟩ = some (.string (mtB (K + 1 + 1 + 1 + 1 + 1 + 1))) := (HC.out.below HB0.out hbw).c6
      have d7 : wr.cell? ⟨b, off + j * 8 + 7, none⟩ = some (.slice va0 x.sl.length vc0) := (HC.out.below HB0.out hbw).c7
      have x0 : ∀ X : In (Up wr), X.w.cell? ⟨b, off + j * 8 + 6, none⟩ = some (.string (mtB (K + 1 + 1 + 1 + 1 + 1 + 1))) := fun X => Up.cell X d6
      have xn : Nonempty (In (Up wr)) := ⟨⟨wr, Below.refl _ _⟩⟩
      have xs := fun (X : In (Up wr)) => in_self X
      go_wp2
      clear d0 d1 d2 d3 d4 d5 d6 d7
      refine wp_region_class (Up wr) (by kernel_rfl) (by kernel_rfl) ((Below.refl _ _).drew) ?_
      repeat (go_big_quiet_step (first | (go_at_call 73; rename_i X; exact (markText_any _ _ (by omega)).mono fun _ _ h => ⟨h.1, Up.next X h.2⟩)))
      refine wpQuiet_nil ?_
      intro w1 hw
      obtain ⟨Y, hY⟩ := hw
      have HB1 : Hid (Below w.heap.size w w1) := HB0.out.trans (Below.mono (show Below wr.heap.size wr w1 by rw [hY]; exact Y.h) HB0.out.size)
      clear hY Y x0 xs xn HB0
      have d0 : w1.cell? ⟨b, off + j * 8, none⟩ = some (.int .i64 (K)) := (HC.out.below HB1.out hbw).c0
      have d1 : w1.cell? ⟨b, off + j * 8 + 1, none⟩ = some (.int .i64 (K + 1)) := (HC.out.below HB1.out hbw).c1
      have d2 : w1.cell? ⟨b, off + j * 8 + 2, none⟩ = some (.int .i64 (K + 1 + 1)) := (HC.out.below HB1.out hbw).c2
      have d3 : w1.cell? ⟨b, off + j * 8 + 3, none⟩ = some (.int .i64 (K + 1 + 1 + 1)) := (HC.out.below HB1.out hbw).c3
      have d4 : w1.cell? ⟨b, off + j * 8 + 4, none⟩ = some (.int .i64 (K + 1 + 1 + 1 + 1)) := (HC.out.below HB1.out hbw).c4
      have d5 : w1.cell? ⟨b, off + j * 8 + 5, none⟩ = some (.int .i64 (K + 1 + 1 + 1 + 1 + 1)) := (HC.out.below HB1.out hbw).c5
      have d6 : w1.cell? ⟨b, off + j * 8 + 6, none⟩ = some (.string (mtB (K + 1 + 1 + 1 + 1 + 1 + 1))) := (HC.out.below HB1.out hbw).c6
      have d7 : w1.cell? ⟨b, off + j * 8 + 7, none⟩ = some (.slice va0 x.sl.length vc0) := (HC.out.below HB1.out hbw).c7
      go_wp2_with fail
      clear d0 d1 d2 d3 d4 d5 d6 d7
      refine (heldRss_two _ _ _ x.sl _ _ (HL0.out.below HB1.out) hs0 (by omega) (by omega)).mono ?_
      rintro e w2 ⟨rfl, hb⟩
      have HB2 : Hid (Below w.heap.size w w2) := HB1.out.trans (hb.mono HB1.out.size)
      clear hb HB1
      have hg7 : decide (K + 1 + 1 + 1 + 1 + 1 + 1 + 1 + 2 * (x.sl.length : Int) < 0) = false := by simp; omega
      have d0 : w2.cell? ⟨b, off + j * 8, none⟩ = some (.int .i64 (K)) := (HC.out.below HB2.out hbw).c0
      have d1 : w2.cell? ⟨b, off + j * 8 + 1, none⟩ = some (.int .i64 (K + 1)) := (HC.out.below HB2.out hbw).c1
      have d2 : w2.cell? ⟨b, off + j * 8 + 2, none⟩ = some (.int .i64 (K + 1 + 1)) := (HC.out.below HB2.out hbw).c2
      have d3 : w2.cell? ⟨b, off + j * 8 + 3, none⟩ = some (.int .i64 (K + 1 + 1 + 1)) := (HC.out.below HB2.out hbw).c3
      have d4 : w2.cell? ⟨b, off + j * 8 + 4, none⟩ = some (.int .i64 (K + 1 + 1 + 1 + 1)) := (HC.out.below HB2.out hbw).c4
      have d5 : w2.cell? ⟨b, off + j * 8 + 5, none⟩ = some (.int .i64 (K + 1 + 1 + 1 + 1 + 1)) := (HC.out.below HB2.out hbw).c5
      have d6 : w2.cell? ⟨b, off + j * 8 + 6, none⟩ = some (.string (mtB (K + 1 + 1 + 1 + 1 + 1 + 1))) := (HC.out.below HB2.out hbw).c6
      have d7 : w2.cell? ⟨b, off + j * 8 + 7, none⟩ = some (.slice va0 x.sl.length vc0) := (HC.out.below HB2.out hbw).c7
      go_wp2
      clear d0 d1 d2 d3 d4 d5 d6 d7
      have HW : Hid (wdRm Xl[j] = 7 + 2 * x.sl.length) := by unfold Hid; rw [← HXX.out]; rfl
      have HQ : Hid ((K + 1 + 1 + 1 + 1 + 1 + 1 + 1 + 2 * (x.sl.length : Int) : Int) = k + (posRm Xl (j + 1) : Int)) := by
        have h1 := HP.out
        have h2 := HW.out
        have h3 := HK.out
        unfold Hid
        omega
      go_roundw
      case rel => exact ⟨j + 1, by go_num, congrArg (Value.int .i64) HQ.out, by omega, HB2.out⟩
      case measure => simp [intOf]; omega
    · have e : j = Xl.length := by omega
      subst e
      go_wp2
      go_ret
      exact ⟨rfl, HB0.out⟩
end Go.Proofs.YtfbfgljkiikabaaGreat
