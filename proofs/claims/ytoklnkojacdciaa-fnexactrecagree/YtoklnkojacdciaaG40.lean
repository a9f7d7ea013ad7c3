import Derived.Test.YtoklnkojacdciaaG39
namespace Go.Proofs.Ytoklnkojacdciaa
open Go.RowKit Go.Deep

theorem slots_mem {R : List Rr} {ix : Int} {k : Nat} {s : Rs} (hk : k < R.length) (h : slotAt R[k] ix = some s) : s ∈ slotsOf R ix := by
  unfold slotsOf
  exact List.mem_filterMap.2 ⟨R[k], List.getElem_mem hk, h⟩
theorem no_snoc {R : List Rr} {ix : Int} {k : Nat} (hk : k < R.length) (h : ∀ s ∈ slotsOf (R.take k) ix, majB R ix s = false) (hs : ∀ s, slotAt R[k] ix = some s → majB R ix s = false) : ∀ s ∈ slotsOf (R.take (k + 1)) ix, majB R ix s = false := fun s hm => by
  rw [slots_take hk] at hm
  rcases List.mem_append.1 hm with hm | hm
  · exact h s hm
  · exact hs s (by simpa using hm)
theorem ct_step {R : List Rr} {ix : Int} {k : Nat} (hk : k < R.length) {n : Int} {a : ByteArray} : ct (slotsOf (R.take (k + 1)) ix) n a = ct (slotsOf (R.take k) ix) n a + ct (slotAt R[k] ix).toList n a := by
  rw [slots_take hk, ct_append]
theorem slotAt_lo {x : Rr} {ix : Int} (h : ix < 1) : slotAt x ix = none := by
  unfold slotAt
  rw [if_neg (by omega)]
theorem slotAt_hi {x : Rr} {ix : Int} (h : (x.sf.sl.length : Int) < ix) : slotAt x ix = none := by
  unfold slotAt
  split
  · rw [List.getElem?_eq_none (by omega)]
  · rfl
/-- the Safe disk of a recorder in a list -/
theorem safe_cells {lo : Nat} {wr : World} {b off k : Nat} {cs : List Value} {x : Rr} (hr : wr.rangeAt b (off + k * 18) cs) (hx : RrC lo wr cs x) :
    ∃ a0 k0, wr.cell? ⟨b, off + k * 18 + 3, none⟩ = some (.int .i64 x.sf.pr) ∧ wr.cell? ⟨b, off + k * 18 + 3 + 1, none⟩ = some (.int .i64 x.sf.kn) ∧ wr.cell? ⟨b, off + k * 18 + 3 + 2, none⟩ = some (.slice a0 x.sf.sl.length k0) ∧ RssAt lo wr (.slice a0 x.sf.sl.length k0) x.sf.sl := by
  obtain ⟨a0, k0, a1, k1, a2, k2, a3, k3, a4, k4, a5, k5, a6, k6, hcs, h⟩ := hx
  rw [hcs] at hr
  exact ⟨a0, k0, hr 3 _ rfl, hr 4 _ rfl, hr 5 _ rfl, h.l0⟩

set_option maxRecDepth 100000 in
set_option maxHeartbeats 8000000 in
theorem majS_any (lo : Nat) (cs : List Value) (U : Wd) (ix : Int) (w : World) (h : WdC lo w cs U) (hok : SafeOk U.rs) :
    Calls Try.prog 44 #[.agg cs.toArray, .int .i64 ix] w fun e w' => e = .returned (.tuple (majV (majR U.rs ix))) ∧ Below w.heap.size w w' := by
  obtain ⟨a0, k0, a1, k1, a2, k2, rfl, h⟩ := h
  show Calls Try.prog 44 #[.agg #[.slice a0 U.rs.length k0, .slice a1 U.fl.length k1, .slice a2 U.fx.length k2], .int .i64 ix] w _
  have HL := hide h.l0
  have HOK := hide hok
  have hn5 := hok.1
  clear h hok
  obtain ⟨R, hR⟩ : ∃ R, R = U.rs := ⟨_, rfl⟩
  rw [← hR] at HL HOK hn5 ⊢
  clear hR
  obtain ⟨n, hn⟩ : ∃ n, n = R.length := ⟨_, rfl⟩
  rw [← hn] at hn5 ⊢
  have HNN := hide hn
  clear hn
  go_enter Try.func44, Try.ntmps44
  go_upto_region 2 with fail
  obtain ⟨Wa, hWa, HB, FX⟩ : ∃ Wa, Wa = w.alloc (.cells #[.slice a0 n k0, .slice a1 U.fl.length k1, .slice a2 U.fx.length k2] 26) ∧ Hid (Below w.heap.size w Wa) ∧ Hid (Box Wa w.heap.size #[.slice a0 n k0, .slice a1 U.fl.length k1, .slice a2 U.fx.length k2]) := ⟨_, rfl, one_al _ _, Box.new _ _ _ _ rfl⟩
  rw [← hWa]
  clear hWa
  replace HL := hide (HL.out.below HB.out)
  go_loopw [6] (fun i wr => ∃ k : Nat, i = .int .i64 k ∧ k ≤ n ∧ Below Wa.heap.size Wa wr ∧ ∀ s ∈ slotsOf (R.take k) ix, majB R ix s = false) (fun i _ => n - (intOf i).toNat)
  case atStart => exact ⟨0, rfl, by omega, Below.refl _ _, fun s h => by simp [slotsOf] at h⟩
  case round =>
    obtain ⟨k, rfl, hk, hb, hall⟩ := hrel
    have HAL := hide hall
    have HBr := hide hb
    clear hall hb
    have z0 : wr.cell? ⟨w.heap.size, 0, none⟩ = some (.slice a0 n k0) := (FX.out.on HBr.out).cell 0
    by_cases hlt : k < n
    · have hkl : k < R.length := by rw [← HNN.out]; exact hlt
      obtain ⟨b, off, rfl, hbw, -, hc⟩ := HL.out.full' (by omega)
      obtain ⟨cs, hr, hx⟩ := hc k hkl
      have HNX : Hid ((∀ s, slotAt R[k] ix = some s → majB R ix s = false) → ∀ s ∈ slotsOf (R.take (k + 1)) ix, majB R ix s = false) := no_snoc hkl HAL.out
      have HME : Hid (∀ s, slotAt R[k] ix = some s → s ∈ slotsOf R ix) := fun s h => slots_mem hkl h
      obtain ⟨e0, f0, c3, c4, c5, hrs⟩ := safe_cells (rng_below hr HBr.out hbw) (hx.below HBr.out)
      have HXO : Hid (R[k].sf.sl.length ≤ 120) := (HOK.out.2 _ (List.getElem_mem hkl)).1
      obtain ⟨x, hxx⟩ : ∃ x, x = R[k] := ⟨_, rfl⟩
      rw [← hxx] at c3 c4 c5 hrs HNX HME HXO
      have HRS := hide hrs
      have hx120 := HXO.out
      have i0 : (0 : Int) ≤ (k : Int) := by omega
      have i1 : (k : Int) < (n : Int) := by omega
      have HRC := hide hc
      clear hc hxx hr hx hrs HXO
      go_upto_region 5 with fail
      obtain ⟨Wb, hWb, HBx, BD⟩ : ∃ Wb, Wb = wr.alloc (.cells #[.int .i64 x.sf.pr, .int .i64 x.sf.kn, .slice e0 x.sf.sl.length f0] 46) ∧ Hid (Below wr.heap.size wr Wb) ∧ Hid (Box Wb wr.heap.size #[.int .i64 x.sf.pr, .int .i64 x.sf.kn, .slice e0 x.sf.sl.length f0]) := ⟨_, rfl, one_al _ _, Box.new _ _ _ _ rfl⟩
      rw [← hWb]
      clear hWb
      have HBb : Hid (Below Wa.heap.size Wa Wb) := bt HBr.out HBx.out
      replace HRS := hide (HRS.out.below HBx.out)
      have y2 : Wb.cell? ⟨wr.heap.size, 2, none⟩ = some (.slice e0 x.sf.sl.length f0) := BD.out.cell 2
      clear c3 c4 c5 z0 HBx HBr
      generalize hbeta : wr.heap.size = β at *
      clear hbeta
      by_cases q1 : ix < 1
      · have HS : Hid (slotAt x ix = none) := slotAt_lo q1
        go_wp2
        go_roundw
        case rel => exact ⟨k + 1, by go_num, by omega, HBb.out, HNX.out (fun s h => by rw [HS.out] at h; cases h)⟩
        case measure => simp [intOf]; omega
      · by_cases q2 : (x.sf.sl.length : Int) < ix
        · have HS : Hid (slotAt x ix = none) := slotAt_hi q2
          go_wp2
          go_roundw
          case rel => exact ⟨k + 1, by go_num, by omega, HBb.out, HNX.out (fun s h => by rw [HS.out] at h; cases h)⟩
          case measure => simp [intOf]; omega
        · obtain ⟨p, hp, hpl⟩ : ∃ p : Nat, ix = (p : Int) + 1 ∧ p < x.sf.sl.length := ⟨(ix - 1).toNat, by omega, by omega⟩
          subst hp
          obtain ⟨g, og, rfl, hgw, -, hcg⟩ := HRS.out.full' (by omega)
          obtain ⟨hsz, hcz⟩ := hcg p hpl
          obtain ⟨s, hs⟩ : ∃ s, s = x.sf.sl[p] := ⟨_, rfl⟩
          have HSL : Hid (slotAt x ((p : Int) + 1) = some s) := by unfold Hid; rw [slotAt_yes hpl, hs]
          rw [← hs] at hsz hcz
          clear hs hcg
          have d0 : Wb.cell? ⟨g, og + p * 2, none⟩ = some (.int .i64 s.ba) := hcz.c0
          have d1 : Wb.cell? ⟨g, og + p * 2 + 1, none⟩ = some (.string s.tx) := hcz.c1
          have j0 : (0 : Int) ≤ (p : Int) := by omega
          have j1 : (p : Int) < (x.sf.sl.length : Int) := by omega
          have jn : IntKind.i64.wrap ((p : Int) + 1 - 1) = (p : Int) := by rw [IntWalk.i64_left]; unfold wrap64; omega
          clear hcz hsz
          by_cases q3 : s.ba = 0
          · have HM : Hid (majB R ((p : Int) + 1) s = false) := by unfold Hid majB; simp [q3]
            go_wp2
            go_roundw
            case rel => exact ⟨k + 1, by go_num, by omega, HBb.out, HNX.out (fun t h => by rw [HSL.out] at h; injection h with h; rw [← h]; exact HM.out)⟩
            case measure => simp [intOf]; omega
          · have HQ3 := hide q3
            go_wp2
            have HD0 := hide d0
            have HD1 := hide d1
            have HY2 := hide y2
            clear d0 d1 y2 q1 q2 q3
            go_loopw [8, 9] (fun c i wr => ∃ m : Nat, c = .int .i64 (ct (slotsOf (R.take m) ((p : Int) + 1)) s.ba s.tx : Int) ∧ i = .int .i64 m ∧ m ≤ n ∧ Below Wb.heap.size Wb wr) (fun _ i _ => n - (intOf i).toNat)
            case atStart => exact ⟨0, by simp [slotsOf, ct], rfl, by omega, Below.refl _ _⟩
            case round =>
              obtain ⟨m, rfl, rfl, hm, hb⟩ := hrel
              have HBq := hide hb
              have HBw : Hid (Below Wa.heap.size Wa wr) := bt HBb.out hb
              clear hb
              have z0 : wr.cell? ⟨w.heap.size, 0, none⟩ = some (.slice (some ⟨b, off, none⟩) n k0) := (FX.out.on HBw.out).cell 0
              have hct : ct (slotsOf (R.take m) ((p : Int) + 1)) s.ba s.tx ≤ 5 := by
                have h1 := ct_le (slotsOf (R.take m) ((p : Int) + 1)) s.ba s.tx
                have h2 := slots_len (R.take m) ((p : Int) + 1)
                rw [List.length_take] at h2
                omega
              by_cases hlm : m < n
              · have hml : m < R.length := by rw [← HNN.out]; exact hlm
                obtain ⟨cs, hr, hx⟩ := HRC.out m hml
                obtain ⟨e1, f1, c3, c4, c5, hrs⟩ := safe_cells (rng_below hr HBw.out hbw) (hx.below HBw.out)
                have HST : Hid (ct (slotsOf (R.take (m + 1)) ((p : Int) + 1)) s.ba s.tx = ct (slotsOf (R.take m) ((p : Int) + 1)) s.ba s.tx + ct (slotAt R[m] ((p : Int) + 1)).toList s.ba s.tx) := ct_step hml
                have HXO : Hid (R[m].sf.sl.length ≤ 120) := (HOK.out.2 _ (List.getElem_mem hml)).1
                obtain ⟨y, hyy⟩ : ∃ y, y = R[m] := ⟨_, rfl⟩
                rw [← hyy] at c3 c4 c5 hrs HST HXO
                have HRT := hide hrs
                have hy120 := HXO.out
                have i2 : (0 : Int) ≤ (m : Int) := by omega
                have i3 : (m : Int) < (n : Int) := by omega
                clear hyy hr hx hrs HXO
                go_upto_region 11 with fail
                obtain ⟨Wc, hWc, HBy, BE⟩ : ∃ Wc, Wc = wr.alloc (.cells #[.int .i64 y.sf.pr, .int .i64 y.sf.kn, .slice e1 y.sf.sl.length f1] 46) ∧ Hid (Below wr.heap.size wr Wc) ∧ Hid (Box Wc wr.heap.size #[.int .i64 y.sf.pr, .int .i64 y.sf.kn, .slice e1 y.sf.sl.length f1]) := ⟨_, rfl, one_al _ _, Box.new _ _ _ _ rfl⟩
                rw [← hWc]
                clear hWc
                replace HBq : Hid (Below Wb.heap.size Wb Wc) := bt HBq.out HBy.out
                replace HRT := hide (HRT.out.below HBy.out)
                have HC2 : Hid (Wc.cell? ⟨wr.heap.size, 2, none⟩ = some (.slice e1 y.sf.sl.length f1)) := BE.out.cell 2
                have HE2 : Hid (Wc.cell? ⟨β, 2, none⟩ = some (.slice (some ⟨g, og, none⟩) x.sf.sl.length f0)) := (BD.out.on HBq.out).cell 2
                have HF0 : Hid (Wc.cell? ⟨g, og + p * 2, none⟩ = some (.int .i64 s.ba)) := by unfold Hid; rw [HBq.out.cell hgw]; exact HD0.out
                have HF1 : Hid (Wc.cell? ⟨g, og + p * 2 + 1, none⟩ = some (.string s.tx)) := by unfold Hid; rw [HBq.out.cell hgw]; exact HD1.out
                clear c3 c4 c5 z0 BE HBy HBw
                generalize hgam : wr.heap.size = γ at *
                clear hgam
                go_cut [75] (fun c wc => c = .bool (decide (ct (slotAt y ((p : Int) + 1)).toList s.ba s.tx = 1)) ∧ Below Wc.heap.size Wc wc)
                case first =>
                  have xn : Nonempty (In (Up Wc)) := ⟨⟨Wc, Below.refl _ _⟩⟩
                  have xs := fun (X : In (Up Wc)) => in_self X
                  have s0 : ∀ X : In (Up Wc), _ := fun X => Up.cell X HC2.out
                  have s1 : ∀ X : In (Up Wc), _ := fun X => Up.cell X HE2.out
                  have s2 : ∀ X : In (Up Wc), _ := fun X => Up.cell X HF0.out
                  have s3 : ∀ X : In (Up Wc), _ := fun X => Up.cell X HF1.out
                  by_cases r1 : p < y.sf.sl.length
                  · have r2 : decide ((p : Int) + 1 ≤ (y.sf.sl.length : Int)) = true := by simp; omega
                    have r3 : (p : Int) < (y.sf.sl.length : Int) := by omega
                    obtain ⟨g', og', rfl, hgw', -, hcg'⟩ := HRT.out.full' (by omega)
                    obtain ⟨-, hcz'⟩ := hcg' p r1
                    obtain ⟨t, ht⟩ : ∃ t, t = y.sf.sl[p] := ⟨_, rfl⟩
                    have HTL : Hid (slotAt y ((p : Int) + 1) = some t) := by unfold Hid; rw [slotAt_yes r1, ht]
                    rw [← ht] at hcz'
                    have s4 : ∀ X : In (Up Wc), _ := fun X => Up.cell X hcz'.c0
                    have s5 : ∀ X : In (Up Wc), _ := fun X => Up.cell X hcz'.c1
                    clear hcg' ht hcz'
                    have HIT : Hid (decide (ct (slotAt y ((p : Int) + 1)).toList s.ba s.tx = 1) = decide (t.ba = s.ba ∧ t.tx = s.tx)) := by unfold Hid; rw [HTL.out, Option.toList_some, ct_one]; by_cases e : t.ba = s.ba ∧ t.tx = s.tx <;> simp [e]
                    by_cases h1 : t.ba = s.ba
                    · have e1 : (t.ba = s.ba) = True := eq_true h1
                      by_cases h2 : t.tx = s.tx
                      · have e2 : (t.tx.toList = s.tx.toList) = True := eq_true (by rw [h2])
                        have HD : Hid (decide (t.ba = s.ba ∧ t.tx = s.tx) = true) := decide_eq_true ⟨h1, h2⟩
                        clear h1 h2
                        refine wp_region_class (Up Wc) (by kernel_rfl) (by kernel_rfl) ((Below.refl _ _).drew) ?_
                        repeat (go_big_quiet_step (fail))
                        refine wpQuiet_nil ?_
                        intro wn hw
                        obtain ⟨X, hX⟩ := hw
                        have HWN : Below Wc.heap.size Wc wn := by rw [hX]; exact X.h
                        clear hX X s0 s1 s2 s3 s4 s5 xs xn
                        go_wp2
                        go_meet
                        exact ⟨congrArg Value.bool (HIT.out.trans HD.out).symm, HWN⟩
                      · have e2 : (t.tx.toList = s.tx.toList) = False := eq_false (fun h => h2 (bytes_eq.1 (by simpa using h)))
                        have HD : Hid (decide (t.ba = s.ba ∧ t.tx = s.tx) = false) := decide_eq_false (fun h => h2 h.2)
                        clear h1 h2
                        refine wp_region_class (Up Wc) (by kernel_rfl) (by kernel_rfl) ((Below.refl _ _).drew) ?_
                        repeat (go_big_quiet_step (fail))
                        refine wpQuiet_nil ?_
                        intro wn hw
                        obtain ⟨X, hX⟩ := hw
                        have HWN : Below Wc.heap.size Wc wn := by rw [hX]; exact X.h
                        clear hX X s0 s1 s2 s3 s4 s5 xs xn
                        go_wp2
                        go_meet
                        exact ⟨congrArg Value.bool (HIT.out.trans HD.out).symm, HWN⟩
                    · have e1 : (t.ba = s.ba) = False := eq_false h1
                      have HD : Hid (decide (t.ba = s.ba ∧ t.tx = s.tx) = false) := decide_eq_false (fun h => h1 h.1)
                      clear h1
                      refine wp_region_class (Up Wc) (by kernel_rfl) (by kernel_rfl) ((Below.refl _ _).drew) ?_
                      repeat (go_big_quiet_step (fail))
                      refine wpQuiet_nil ?_
                      intro wn hw
                      obtain ⟨X, hX⟩ := hw
                      have HWN : Below Wc.heap.size Wc wn := by rw [hX]; exact X.h
                      clear hX X s0 s1 s2 s3 s4 s5 xs xn
                      go_wp2
                      go_meet
                      exact ⟨congrArg Value.bool (HIT.out.trans HD.out).symm, HWN⟩
                  · have r2 : decide ((p : Int) + 1 ≤ (y.sf.sl.length : Int)) = false := by simp; omega
                    have HTL : Hid (slotAt y ((p : Int) + 1) = none) := slotAt_hi (by omega)
                    refine wp_region_class (Up Wc) (by kernel_rfl) (by kernel_rfl) ((Below.refl _ _).drew) ?_
                    repeat (go_big_quiet_step (fail))
                    refine wpQuiet_nil ?_
                    intro wn hw
                    obtain ⟨X, hX⟩ := hw
                    have HWN : Below Wc.heap.size Wc wn := by rw [hX]; exact X.h
                    clear hX X s0 s1 s2 s3 xs xn
                    go_wp2
                    go_meet
                    exact ⟨congrArg Value.bool (by rw [HTL.out]; rfl), HWN⟩
                case rest =>
                obtain ⟨rfl, hbc⟩ := hcut
                have HBc : Hid (Below Wb.heap.size Wb wc) := bt HBq.out hbc
                have hle : ct (slotAt y ((p : Int) + 1)).toList s.ba s.tx ≤ 1 := by
                  have := ct_le (slotAt y ((p : Int) + 1)).toList s.ba s.tx
                  have h2 : (slotAt y ((p : Int) + 1)).toList.length ≤ 1 := by cases slotAt y ((p : Int) + 1) <;> simp
                  omega
                clear hbc
                cases q5 : decide (ct (slotAt y ((p : Int) + 1)).toList s.ba s.tx = 1) with
                | true =>
                  have HN : Hid (((ct (slotsOf (R.take (m + 1)) ((p : Int) + 1)) s.ba s.tx : Nat) : Int) = (ct (slotsOf (R.take m) ((p : Int) + 1)) s.ba s.tx : Int) + 1) := by unfold Hid; rw [HST.out, of_decide_eq_true q5]; simp
                  go_wp2
                  go_roundw
                  case rel => exact ⟨m + 1, by rw [HN.out], by go_num, by omega, HBc.out⟩
                  case measure => simp [intOf]; omega
                | false =>
                  have HN : Hid (ct (slotsOf (R.take (m + 1)) ((p : Int) + 1)) s.ba s.tx = ct (slotsOf (R.take m) ((p : Int) + 1)) s.ba s.tx) := by unfold Hid; rw [HST.out]; have := of_decide_eq_false q5; omega
                  go_wp2
                  go_roundw
                  case rel => exact ⟨m + 1, by rw [HN.out], by go_num, by omega, HBc.out⟩
                  case measure => simp [intOf]; omega
              · have e : R.take m = R := List.take_of_length_le (by rw [← HNN.out]; omega)
                obtain ⟨q, hq⟩ : ∃ q, q = ct (slotsOf R ((p : Int) + 1)) s.ba s.tx := ⟨_, rfl⟩
                rw [e, ← hq] at hct ⊢
                have HMB : Hid (majB R ((p : Int) + 1) s = decide (n < 2 * q)) := by unfold Hid majB; rw [← hq, ← HNN.out]; simp [HQ3.out]
                have y2 : wr.cell? ⟨β, 2, none⟩ = some (.slice (some ⟨g, og, none⟩) x.sf.sl.length f0) := (BD.out.on HBq.out).cell 2
                have d1 : wr.cell? ⟨g, og + p * 2 + 1, none⟩ = some (.string s.tx) := by rw [HBq.out.cell hgw]; exact HD1.out
                clear hq e
                by_cases q6 : n < 2 * q
                · have q7 : (n : Int) < 2 * (q : Int) := by omega
                  have HE : Hid (majR R ((p : Int) + 1) = some s.tx) := maj_some (HME.out s HSL.out) (by rw [HMB.out]; exact decide_eq_true q6)
                  go_wp2
                  refine bodyPost_ret (v := .tuple #[.string s.tx, .bool true]) (by simp [results, Try.results44, go_sem]) rfl ⟨by rw [HE.out]; rfl, bt HB.out HBw.out⟩
                · have q7 : ¬ (n : Int) < 2 * (q : Int) := by omega
                  have HM : Hid (majB R ((p : Int) + 1) s = false) := by unfold Hid; rw [HMB.out]; exact decide_eq_false q6
                  go_wp2
                  go_roundw
                  case rel => exact ⟨k + 1, by go_num, by omega, HBw.out, HNX.out (fun t h => by rw [HSL.out] at h; injection h with h; rw [← h]; exact HM.out)⟩
                  case measure => simp [intOf]; omega
    · have HE : Hid (majR R ix = none) := by
        unfold Hid
        have e : R.take k = R := List.take_of_length_le (by rw [← HNN.out]; omega)
        have h := HAL.out
        rw [e] at h
        exact maj_none h
      go_wp2
      refine bodyPost_ret (v := .tuple #[.string ⟨#[]⟩, .bool false]) (by simp [results, Try.results44, go_sem]) rfl ⟨by rw [HE.out]; rfl, bt HB.out HBr.out⟩
end Go.Proofs.Ytoklnkojacdciaa
namespace Go.Proofs.Ytoklnkojacdciaa
open Go.RowKit Go.Deep

theorem safe_one {D : Rd} (h : diskB D = true) : D.sl.length ≤ 120 ∧ ∀ s ∈ D.sl, 0 ≤ s.ba ∧ s.ba ≤ 1000000 := by
  unfold diskB slotsB at h
  simp only [Bool.and_eq_true, decide_eq_true_eq] at h
  obtain ⟨_, ⟨h1, h2⟩, _⟩ := h
  refine ⟨h1, fun s hs => ?_⟩
  have := List.all_eq_true.1 h2 s hs
  unfold slotB inB at this
  simp only [Bool.and_eq_true, decide_eq_true_eq] at this
  exact this.1
theorem wld_recs {U : Wd} (h : wldB U = true) : U.rs.length ≤ 5 ∧ ∀ i (hi : i < U.rs.length), validR U.rs[i] = true := by
  unfold wldB recsB inB at h
  simp only [Bool.and_eq_true, decide_eq_true_eq] at h
  obtain ⟨h1, _, h3, _⟩ := h
  refine ⟨by omega, fun i hi => ?_⟩
  have := List.all_eq_true.1 h3 i (List.mem_range.2 hi)
  rw [rok_at hi, Bool.and_eq_true] at this
  exact this.1
theorem safe_ok {U : Wd} (h : wldB U = true) : SafeOk U.rs := by
  obtain ⟨h1, h2⟩ := wld_recs h
  refine ⟨h1, fun x hx => ?_⟩
  obtain ⟨i, hi, rfl⟩ := List.getElem_of_mem hx
  have := h2 i hi
  unfold validR at this
  simp only [Bool.and_eq_true] at this
  exact safe_one this.2.2.1
def majW (U : Wd) (ix : Int) : Option ByteArray := if wldB U = true then majR U.rs ix else none
theorem majV_two (o : Option ByteArray) : ∃ t b, majV o = #[.string t, .bool b] := by
  cases o with
  | none => exact ⟨_, _, rfl⟩
  | some t => exact ⟨_, _, rfl⟩

set_option maxHeartbeats 4000000 in
theorem specMajor_any (lo : Nat) (cs : List Value) (U : Wd) (ix : Int) (w : World) (h : WdC lo w cs U) (hn : WdSmall U) :
    Calls Try.prog 16 #[.agg cs.toArray, .int .i64 ix] w fun e w' => e = .returned (.tuple (majV (majW U ix))) ∧ Below w.heap.size w w' := by
  have HC := hide h
  have HN := hide hn
  obtain ⟨a0, k0, a1, k1, a2, k2, rfl, -⟩ := h
  show Calls Try.prog 16 #[.agg #[.slice a0 U.rs.length k0, .slice a1 U.fl.length k1, .slice a2 U.fx.length k2], .int .i64 ix] w _
  clear hn
  go_enter Try.func16, Try.ntmps16
  go_wp2_with fail
  obtain ⟨Wa, hWa, HB, FX⟩ : ∃ Wa, Wa = w.alloc (.cells #[.slice a0 U.rs.length k0, .slice a1 U.fl.length k1, .slice a2 U.fx.length k2] 26) ∧ Hid (Below w.heap.size w Wa) ∧ Hid (Box Wa w.heap.size #[.slice a0 U.rs.length k0, .slice a1 U.fl.length k1, .slice a2 U.fx.length k2]) := ⟨_, rfl, one_al _ _, Box.new _ _ _ _ rfl⟩
  rw [← hWa]
  clear hWa
  refine (specWorldR_any lo _ U _ (HC.out.below HB.out) HN.out).mono ?_
  rintro e w1 ⟨rfl, hb1⟩
  replace HB := hide (bt HB.out hb1)
  replace FX := hide (FX.out.on hb1)
  clear hb1
  cases q : wldB U with
  | false =>
    have HE : Hid (majW U ix = none) := by unfold Hid majW; rw [q]; rfl
    go_wp2
    refine bodyPost_ret (v := .tuple #[.string ⟨#[]⟩, .bool false]) (by simp [results, Try.results16, go_sem]) rfl ⟨by rw [HE.out]; rfl, HB.out⟩
  | true =>
    have HE : Hid (majW U ix = majR U.rs ix) := by unfold Hid majW; rw [q]; rfl
    have HSO := hide (safe_ok q)
    have g0 := FX.out.cell
    go_wp2_with fail
    clear g0
    refine (majS_any lo _ U ix _ (HC.out.below HB.out) HSO.out).mono ?_
    rintro e w2 ⟨rfl, hb2⟩
    replace HB := hide (bt HB.out hb2)
    obtain ⟨t, b, hv⟩ := majV_two (majR U.rs ix)
    have HV := hide hv
    rw [hv]
    clear hb2 hv
    go_wp2
    refine bodyPost_ret (v := .tuple #[.string t, .bool b]) (by simp [results, Try.results16, go_sem]) rfl ⟨by rw [HE.out, HV.out], HB.out⟩
set_option maxHeartbeats 4000000 in
theorem implMajor_any (lo : Nat) (cs : List Value) (U : Wd) (ix : Int) (w : World) (h : WdC lo w cs U) :
    Calls Try.prog 17 #[.agg cs.toArray, .int .i64 ix] w fun e w' => e = .returned (.tuple (majV (majW U ix))) ∧ Below w.heap.size w w' := by
  have HC := hide h
  obtain ⟨a0, k0, a1, k1, a2, k2, rfl, hl⟩ := h
  have HL := hide hl.l0
  show Calls Try.prog 17 #[.agg #[.slice a0 U.rs.length k0, .slice a1 U.fl.length k1, .slice a2 U.fx.length k2], .int .i64 ix] w _
  clear hl
  go_enter Try.func17, Try.ntmps17
  go_wp2_with fail
  obtain ⟨Wa, hWa, HB, FX⟩ : ∃ Wa, Wa = w.alloc (.cells #[.slice a0 U.rs.length k0, .slice a1 U.fl.length k1, .slice a2 U.fx.length k2] 26) ∧ Hid (Below w.heap.size w Wa) ∧ Hid (Box Wa w.heap.size #[.slice a0 U.rs.length k0, .slice a1 U.fl.length k1, .slice a2 U.fx.length k2]) := ⟨_, rfl, one_al _ _, Box.new _ _ _ _ rfl⟩
  rw [← hWa]
  clear hWa
  refine (implWorldR_any lo _ U _ (HC.out.below HB.out)).mono ?_
  rintro e w1 ⟨rfl, hb1⟩
  replace HB := hide (bt HB.out hb1)
  replace FX := hide (FX.out.on hb1)
  clear hb1
  cases q : wldB U with
  | false =>
    have HE : Hid (majW U ix = none) := by unfold Hid majW; rw [q]; rfl
    go_wp2
    refine bodyPost_ret (v := .tuple #[.string ⟨#[]⟩, .bool false]) (by simp [results, Try.results17, go_sem]) rfl ⟨by rw [HE.out]; rfl, HB.out⟩
  | true =>
    have HE : Hid (majW U ix = majR U.rs ix) := by unfold Hid majW; rw [q]; rfl
    have HSO := hide (safe_ok q)
    have g0 := FX.out.cell
    go_wp2_with fail
    clear g0
    refine (majI_any lo _ U.rs ix _ (HL.out.below HB.out) HSO.out).mono ?_
    rintro e w2 ⟨rfl, hb2⟩
    replace HB := hide (bt HB.out hb2)
    obtain ⟨t, b, hv⟩ := majV_two (majR U.rs ix)
    have HV := hide hv
    rw [hv]
    clear hb2 hv
    go_wp2
    refine bodyPost_ret (v := .tuple #[.string t, .bool b]) (by simp [results, Try.results17, go_sem]) rfl ⟨by rw [HE.out, HV.out], HB.out⟩
end Go.Proofs.Ytoklnkojacdciaa
