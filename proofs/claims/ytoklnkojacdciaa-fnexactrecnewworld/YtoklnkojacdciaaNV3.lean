
import Derived.Test.YtoklnkojacdciaaNV2
namespace Go.Proofs.Ytoklnkojacdciaa
open Go.RowKit Go.Deep

theorem mkP_get (k : Int) (n j : Nat) (h : j < (mkP k n).length) : (mkP k n)[j] = mkNr (k + 11 * (j : Int)) := by simp [mkP]
set_option maxRecDepth 20000 in
set_option maxHeartbeats 16000000 in
theorem heldN_any (lo hi g cap n : Nat) (k : Int) (w : World) (h : FR nrL 18 w lo hi g cap (mkP k n)) (hn : n ≤ 5) (h0 : 0 ≤ k) (hk : k ≤ 1000000) :
    Calls Try.prog 30 #[.slice (some ⟨g, 0, none⟩) n cap, .int .i64 k] w fun e w' => e = .returned (.int .i64 (k + 11 * (n : Int))) ∧ w' = w := by
  have HF := hide h
  clear h
  go_enter Try.func30, Try.ntmps30
  go_wp2
  go_loop [5, 1] (fun i q => ∃ j : Nat, i = .int .i64 j ∧ q = .int .i64 (k + 11 * (j : Int)) ∧ j ≤ n) (fun i _ => n - (intOf i).toNat)
  case atStart => exact ⟨0, rfl, by simp, by omega⟩
  case round =>
    obtain ⟨j, rfl, rfl, hj⟩ := hrel
    by_cases hlt : j < n
    · have hjl : j < (mkP k n).length := by rw [mkP_len]; exact hlt
      obtain ⟨K, hK⟩ : ∃ K, K = k + 11 * (j : Int) := ⟨_, rfl⟩
      have HC : Hid (w.rangeAt g (j * 18) (nrL (mkNr K))) := fun t u hu => HF.out.get nrL_len hjl (by have := (List.getElem?_eq_some_iff.1 hu).1; rwa [nrL_len] at this) (by rw [mkP_get, ← hK]; exact hu)
      rw [← hK]
      have hK0 : 0 ≤ K := by omega
      have hK1 : K ≤ 2000000 := by omega
      have HK := hide hK
      have i0 : (0 : Int) ≤ (j : Int) := by omega
      have i1 : (j : Int) < (n : Int) := by omega
      clear hK
      have d0 : w.cell? ⟨g, j * 18, none⟩ = some (.int .i64 (K)) := HC.out 0 _ rfl
      have d1 : w.cell? ⟨g, j * 18 + 1, none⟩ = some (.int .i64 (K + 1)) := HC.out 1 _ rfl
      have d2 : w.cell? ⟨g, j * 18 + 2, none⟩ = some (.bool ((K + 1 + 1) % 3 == 0)) := HC.out 2 _ rfl
      have d3 : w.cell? ⟨g, j * 18 + 3, none⟩ = some (.int .i64 (K + 1 + 1 + 1)) := HC.out 3 _ rfl
      have d4 : w.cell? ⟨g, j * 18 + 3 + 1, none⟩ = some (.int .i64 (K + 1 + 1 + 1 + 1)) := HC.out 4 _ rfl
      have d5 : w.cell? ⟨g, j * 18 + 3 + 2, none⟩ = some (.slice none 0 0) := HC.out 5 _ rfl
      have d6 : w.cell? ⟨g, j * 18 + 6, none⟩ = some (.int .i64 (K + 1 + 1 + 1 + 1 + 1)) := HC.out 6 _ rfl
      have d7 : w.cell? ⟨g, j * 18 + 6 + 1, none⟩ = some (.int .i64 (K + 1 + 1 + 1 + 1 + 1 + 1)) := HC.out 7 _ rfl
      have d8 : w.cell? ⟨g, j * 18 + 6 + 2, none⟩ = some (.slice none 0 0) := HC.out 8 _ rfl
      have d9 : w.cell? ⟨g, j * 18 + 9, none⟩ = some (.slice none 0 0) := HC.out 9 _ rfl
      have d10 : w.cell? ⟨g, j * 18 + 10, none⟩ = some (.slice none 0 0) := HC.out 10 _ rfl
      have d11 : w.cell? ⟨g, j * 18 + 11, none⟩ = some (.bool ((K + 1 + 1 + 1 + 1 + 1 + 1 + 1) % 3 == 0)) := HC.out 11 _ rfl
      have d12 : w.cell? ⟨g, j * 18 + 12, none⟩ = some (.bool ((K + 1 + 1 + 1 + 1 + 1 + 1 + 1 + 1) % 3 == 0)) := HC.out 12 _ rfl
      have d13 : w.cell? ⟨g, j * 18 + 13, none⟩ = some (.int .i64 (K + 1 + 1 + 1 + 1 + 1 + 1 + 1 + 1 + 1)) := HC.out 13 _ rfl
      have d14 : w.cell? ⟨g, j * 18 + 14, none⟩ = some (.slice none 0 0) := HC.out 14 _ rfl
      have d15 : w.cell? ⟨g, j * 18 + 15, none⟩ = some (.slice none 0 0) := HC.out 15 _ rfl
      have d16 : w.cell? ⟨g, j * 18 + 16, none⟩ = some (.slice none 0 0) := HC.out 16 _ rfl
      have d17 : w.cell? ⟨g, j * 18 + 17, none⟩ = some (.int .i64 (K + 1 + 1 + 1 + 1 + 1 + 1 + 1 + 1 + 1 + 1)) := HC.out 17 _ rfl
      go_wp2_with (first | (go_at_call 60; refine (heldRecSlotS_nil _ _).mono ?_; rintro e w ⟨rfl, rfl⟩) | (go_at_call 31; refine (heldRecMessageS_nil _ _).mono ?_; rintro e w ⟨rfl, rfl⟩) | (go_at_call 61; refine (heldStringS_nil _ _).mono ?_; rintro e w ⟨rfl, rfl⟩) | (go_at_call 62; refine (heldIntS_nil _ _).mono ?_; rintro e w ⟨rfl, rfl⟩) | (go_at_call 63; refine (heldRecAckS_nil _ _).mono ?_; rintro e w ⟨rfl, rfl⟩))
      have HQ : Hid ((K + 1 + 1 + 1 + 1 + 1 + 1 + 1 + 1 + 1 + 1 + 1 : Int) = k + 11 * ((j + 1 : Nat) : Int)) := by unfold Hid; have := HK.out; omega
      go_round
      case rel => exact ⟨j + 1, by go_num, congrArg (Value.int .i64) HQ.out, by omega⟩
      case measure => simp [intOf]; omega
    · have e : j = n := by omega
      subst e
      go_wp2
      go_ret
      exact ⟨rfl, rfl⟩
set_option maxRecDepth 20000 in
theorem markN_nil (k : Int) (w : World) : Calls Try.prog 27 #[.slice none 0 0, .int .i64 k] w fun e w' => e = .returned (.int .i64 k) ∧ w' = w := by
  go_enter Try.func27, Try.ntmps27
  go_wp2
  go_loop [1, 5] (fun l i => l = .int .i64 k ∧ i = .int .i64 0) (fun _ _ => 0)
  case atStart => exact ⟨rfl, rfl⟩
  case round =>
    obtain ⟨rfl, rfl⟩ := hrel
    go_wp2
    go_ret
    exact ⟨rfl, rfl⟩
set_option maxRecDepth 20000 in
theorem heldN_nil (k : Int) (w : World) : Calls Try.prog 30 #[.slice none 0 0, .int .i64 k] w fun e w' => e = .returned (.int .i64 k) ∧ w' = w := by
  go_enter Try.func30, Try.ntmps30
  go_wp2
  go_loop [1, 5] (fun l i => l = .int .i64 k ∧ i = .int .i64 0) (fun _ _ => 0)
  case atStart => exact ⟨rfl, rfl⟩
  case round =>
    obtain ⟨rfl, rfl⟩ := hrel
    go_wp2
    go_ret
    exact ⟨rfl, rfl⟩
theorem markX_nil (k : Int) (w : World) : Calls Try.prog 29 #[.slice none 0 0, .int .i64 k] w fun e w' => e = .returned (.int .i64 k) ∧ w' = w := by
  go_enter Try.func29, Try.ntmps29
  go_wp2
  go_loop [1, 5] (fun l i => l = .int .i64 k ∧ i = .int .i64 0) (fun _ _ => 0)
  case atStart => exact ⟨rfl, rfl⟩
  case round =>
    obtain ⟨rfl, rfl⟩ := hrel
    go_wp2
    go_ret
    exact ⟨rfl, rfl⟩
theorem heldX_nil (k : Int) (w : World) : Calls Try.prog 32 #[.slice none 0 0, .int .i64 k] w fun e w' => e = .returned (.int .i64 k) ∧ w' = w := by
  go_enter Try.func32, Try.ntmps32
  go_wp2
  go_loop [1, 5] (fun l i => l = .int .i64 k ∧ i = .int .i64 0) (fun _ _ => 0)
  case atStart => exact ⟨rfl, rfl⟩
  case round =>
    obtain ⟨rfl, rfl⟩ := hrel
    go_wp2
    go_ret
    exact ⟨rfl, rfl⟩
theorem markNR_any (lo hi : Nat) (v : Value) (L : List Nr) (k : Int) (w : World) (h : NRow nrL 18 w lo hi v L) (hn : L.length ≤ 5) (h0 : 0 ≤ k) (hk : k ≤ 1000000) :
    Calls Try.prog 27 #[v, .int .i64 k] w fun e w' => e = .returned (.int .i64 (k + 11 * (L.length : Int))) ∧ Touch lo hi w w' ∧ NRow nrL 18 w' lo hi v (mkP k L.length) := by
  rcases h with ⟨rfl, rfl⟩ | ⟨g, cap, rfl, h⟩
  · refine (markN_nil k w).mono ?_
    rintro e w' ⟨rfl, rfl⟩
    exact ⟨by simp, Touch.refl _ _ _, NRow.nil _ _ _ _ _⟩
  · refine (markN_any lo hi g cap L k w h hn h0 hk).mono ?_
    rintro e w' ⟨rfl, ht, hf⟩
    exact ⟨rfl, ht.wide h.bs h.up, Or.inr ⟨g, cap, by rw [mkP_len], hf⟩⟩
theorem heldNR_any (lo hi : Nat) (v : Value) (n : Nat) (k : Int) (w : World) (h : NRow nrL 18 w lo hi v (mkP k n)) (hn : n ≤ 5) (h0 : 0 ≤ k) (hk : k ≤ 1000000) :
    Calls Try.prog 30 #[v, .int .i64 k] w fun e w' => e = .returned (.int .i64 (k + 11 * (n : Int))) ∧ w' = w := by
  rcases h with ⟨rfl, h⟩ | ⟨g, cap, rfl, h⟩
  · have e : n = 0 := by have := congrArg List.length h; rwa [mkP_len] at this
    subst e
    refine (heldN_nil k w).mono ?_
    rintro e w' ⟨rfl, rfl⟩
    exact ⟨by simp, rfl⟩
  · rw [mkP_len]
    exact heldN_any lo hi g cap n k w h hn h0 hk
set_option maxHeartbeats 4000000 in
theorem markW_any (lo hi : Nat) (v : Value) (L : List Nr) (k : Int) (w : World) (h : NRow nrL 18 w lo hi v L) (hh : hi ≤ w.heap.size) (hn : L.length ≤ 5) (h0 : 0 ≤ k) (hk : k ≤ 1000000) :
    Calls Try.prog 10 #[.agg #[v, .slice none 0 0, .slice none 0 0], .int .i64 k] w fun e w' => e = .returned (.int .i64 (k + 11 * (L.length : Int))) ∧ Touch lo hi w w' ∧ NRow nrL 18 w' lo hi v (mkP k L.length) := by
  have HN := hide h
  obtain ⟨a, c, rfl⟩ := h.form
  obtain ⟨n, hnn⟩ : ∃ n, n = L.length := ⟨_, rfl⟩
  rw [← hnn] at HN hn ⊢
  have HNN := hide hnn
  clear h hnn
  go_enter Try.func10, Try.ntmps10
  go_wp2_with fail
  obtain ⟨Wa, hWa, HB, FX⟩ : ∃ Wa, Wa = w.alloc (.cells #[.slice a n c, .slice none 0 0, .slice none 0 0] 26) ∧ Hid (Below w.heap.size w Wa) ∧ Hid (Box Wa w.heap.size #[.slice a n c, .slice none 0 0, .slice none 0 0]) := ⟨_, rfl, one_al _ _, Box.new _ _ _ _ rfl⟩
  rw [← hWa]
  clear hWa
  refine (markNR_any lo hi _ L k _ (HN.out.below HB.out) (by rw [← HNN.out]; exact hn) h0 hk).mono ?_
  rintro e w1 ⟨rfl, ht, hr⟩
  rw [← HNN.out] at hr ⊢
  have HR := hide hr
  have HT : Hid (Touch lo hi w w1) := (Touch.below HB.out).trans ht
  replace FX := hide (FX.out.tch2 ht (Or.inr hh))
  clear hr ht HN HB
  have g0 := FX.out.cell
  go_wp2_with (first | (go_at_call 28; refine (markRecMessageS_nil _ _).mono ?_; rintro e w1 ⟨rfl, rfl⟩) | (go_at_call 29; refine (markX_nil _ _).mono ?_; rintro e w1 ⟨rfl, rfl⟩))
  go_ret
  exact ⟨rfl, HT.out, HR.out⟩
set_option maxHeartbeats 4000000 in
theorem heldW_any (lo hi : Nat) (v : Value) (n : Nat) (k : Int) (w : World) (h : NRow nrL 18 w lo hi v (mkP k n)) (hn : n ≤ 5) (h0 : 0 ≤ k) (hk : k ≤ 1000000) :
    Calls Try.prog 11 #[.agg #[v, .slice none 0 0, .slice none 0 0], .int .i64 k] w fun e w' => e = .returned (.int .i64 (k + 11 * (n : Int))) ∧ Below w.heap.size w w' := by
  have HN := hide h
  obtain ⟨a, c, hv⟩ := h.form
  rw [mkP_len] at hv
  subst hv
  clear h
  go_enter Try.func11, Try.ntmps11
  go_wp2_with fail
  obtain ⟨Wa, hWa, HB, FX⟩ : ∃ Wa, Wa = w.alloc (.cells #[.slice a n c, .slice none 0 0, .slice none 0 0] 26) ∧ Hid (Below w.heap.size w Wa) ∧ Hid (Box Wa w.heap.size #[.slice a n c, .slice none 0 0, .slice none 0 0]) := ⟨_, rfl, one_al _ _, Box.new _ _ _ _ rfl⟩
  rw [← hWa]
  clear hWa
  refine (heldNR_any lo hi _ n k _ (HN.out.below HB.out) hn h0 hk).mono ?_
  rintro e Wa ⟨rfl, rfl⟩
  have g0 := FX.out.cell
  have hz : ¬ (k + 11 * (n : Int) < 0) := by omega
  obtain ⟨q, hq⟩ : ∃ q, q = k + 11 * (n : Int) := ⟨_, rfl⟩
  rw [← hq] at hz ⊢
  have HQ := hide hq
  clear hq
  go_wp2_with (first | (go_at_call 31; refine (heldRecMessageS_nil _ _).mono ?_; rintro e Wa ⟨rfl, rfl⟩) | (go_at_call 32; refine (heldX_nil _ _).mono ?_; rintro e Wa ⟨rfl, rfl⟩))
  go_ret
  exact ⟨by show Ending.returned (Value.int .i64 q) = _; rw [HQ.out], HB.out⟩
end Go.Proofs.Ytoklnkojacdciaa
