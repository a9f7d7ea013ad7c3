import Derived.Test.YtmaagbnjpdijnaaVTD
import Derived.Deep.RegionHeld3
import Derived.Test.YtmaagbnjpdijnaaVDA
import Derived.Test.YtmaagbnjpdijnaaVTA
import Derived.Test.YtmaagbnjpdijnaaVA1
import Derived.Test.YtmaagbnjpdijnaaVB2
namespace Go.Proofs.Ytmaagbnjpdijnaa
open Go.RowKit Go.Deep

end Go.Proofs.Ytmaagbnjpdijnaa

namespace Go.Proofs.Ytmaagbnjpdijnaa
open Go.RowKit Go.Deep

end Go.Proofs.Ytmaagbnjpdijnaa

namespace Go.Proofs.Ytmaagbnjpdijnaa
open Go.RowKit Go.Deep

set_option maxRecDepth 20000 in
set_option maxHeartbeats 4000000 in
theorem specRule_any (lr : Nat) (r : Ru) (vv : Value) (w : World) (hv : IntsIn lr w vv r.vb) (hz : RuSize r) :
    Calls Try.prog 45 #[.agg #[vv, .string r.kd, .string r.tm, .string r.pf]] w fun e w' => e = .returned (.bool (ruleB r)) ∧ Below w.heap.size w w' := by
  have HV := hide hv
  have HZ := hide hz
  have hm := hv.max
  unfold maxLen at hm
  have hsz := hz.s3
  unfold maxLen at hsz
  obtain ⟨a, cap, rfl⟩ := hv.form
  clear hv hz
  by_cases hpos : 0 < r.vb.length
  case neg =>
    have HR : Hid (ruleB r = false) := by unfold Hid ruleB vbsB; rw [decide_eq_false hpos]; rfl
    have h0 : r.vb.length = 0 := by omega
    rw [h0]
    clear hm
    go_enter Try.func45, Try.ntmps45
    go_wp2
    go_ret
    exact ⟨ret_bool HR.out.symm, one_al _ _⟩
  have HPOS := hide hpos
  have hbl : ((r.vb.length : Int) == 0) = false := by rw [beq_eq_false_iff_ne]; omega
  have hnil : ¬ r.vb = [] := fun e => by rw [e] at hpos; simp at hpos
  by_cases h16 : (r.pf.size : Int) ≤ 16
  case neg =>
    have HR : Hid (ruleB r = false) := by unfold Hid ruleB; rw [decide_eq_false h16]; simp
    have h16' : (16 : Int) < r.pf.size := by omega
    go_enter Try.func45, Try.ntmps45
    go_wp2
    go_ret
    exact ⟨ret_bool HR.out.symm, one_al _ _⟩
  have h16p : ¬ (16 : Int) < r.pf.size := by omega
  cases h1 : r.kd.toList.isEmpty with
  | true =>
    have HKD : Hid (emptyOrName r.kd = true) := by unfold Hid emptyOrName; rw [h1]; rfl
    cases h3 : r.tm.toList.isEmpty with
    | true =>
      have HTM : Hid (emptyOrName r.tm = true) := by unfold Hid emptyOrName; rw [h3]; rfl
      go_enter Try.func45, Try.ntmps45
      go_wp2
      try simp only [hbl]
      try simp only [h2]
      try simp only [h4]
      generalize hWa : w.alloc _ = Wa
      have HBa : Hid (Below w.heap.size w Wa) := by rw [← hWa]; exact one_al _ _
      have FA : Hid (Box Wa w.heap.size #[.slice a r.vb.length cap, .string r.kd, .string r.tm, .string r.pf]) := by rw [← hWa]; exact Box.new _ _ _ _ rfl
      clear hWa
      have HVa := hide (HV.out.below HBa.out)
      go_loopw [3] (fun i wr => ∃ k : Nat, i = .int .i64 k ∧ k ≤ r.vb.length ∧ Below Wa.heap.size Wa wr ∧ ∀ i, i < k → vAt r.vb i = true) (fun i _ => r.vb.length - (intOf i).toNat)
      case atStart => exact ⟨0, rfl, by omega, Below.refl _ _, fun i h => by omega⟩
      case round =>
        obtain ⟨k, rfl, hk, hb, hall⟩ := hrel
        have HA := hide hall
        have HB := hide hb
        clear hall hb
        have g0 : wr.cell? ⟨w.heap.size, 0, none⟩ = some (.slice a r.vb.length cap) := (FA.out.on HB.out).cell 0
        have g3 : wr.cell? ⟨w.heap.size, 3, none⟩ = some (.string r.pf) := (FA.out.on HB.out).cell 3
        have HX0 : Hid (Below w.heap.size w wr) := bt HBa.out HB.out
        obtain ⟨b, off, rfl, hbw, hc⟩ := (HVa.out.below HB.out).full' hpos
        by_cases hlt : k < r.vb.length
        · have c0 := hc k hlt
          cases hi : inB 1 5 r.vb[k] with
          | false =>
            have HR : Hid (ruleB r = false) := by unfold Hid ruleB; rw [vbs_no hlt (vAt_in hlt hi)]; rfl
            cases k with
            | zero =>
              have c0 : wr.cell? ⟨b, off, none⟩ = some (.int .i64 r.vb[0]) := by simpa using c0
              go_wp2
              go_quiet ((go_at_call 76; exact (in_any _ _ _ _).mono fun _ _ h => ⟨h.1, _, h.2⟩))
              go_wp2
              go_ret
              exact ⟨ret_bool HR.out.symm, below_drewN HX0.out _⟩
            | succ j =>
              go_wp2
              go_quiet ((go_at_call 76; exact (in_any _ _ _ _).mono fun _ _ h => ⟨h.1, _, h.2⟩))
              go_wp2
              go_ret
              exact ⟨ret_bool HR.out.symm, below_drewN HX0.out _⟩
          | true =>
            cases k with
            | zero =>
              have c0 : wr.cell? ⟨b, off, none⟩ = some (.int .i64 r.vb[0]) := by simpa using c0
              have HX : Hid (vAt r.vb 0 = true) := by unfold Hid; rw [vAt_zero hlt]; exact hi
              go_wp2
              go_quiet ((go_at_call 76; exact (in_any _ _ _ _).mono fun _ _ h => ⟨h.1, _, h.2⟩))
              go_wp2
              go_roundw
              case rel => exact ⟨1, by go_num, by omega, below_drewN HB.out _, v_one HX.out⟩
              case measure => simp [intOf]; omega
            | succ j =>
              have cj := hc j (by omega)
              have hjw : IntKind.i64.wrap (j : Int) = j := by rw [IntKind.wrap_i64]; omega
              have hjl : j < r.vb.length := by omega
              have hdl : decide ((j : Int) + 1 < (r.vb.length : Int)) = true := by simp; omega
              have cj3 : ∀ n, (wr.drewN n).cell? ⟨b, off + j, none⟩ = some (.int .i64 r.vb[j]) := fun n => cj
              have c03 : ∀ n, (wr.drewN n).cell? ⟨b, off + (j + 1), none⟩ = some (.int .i64 r.vb[j + 1]) := fun n => c0
              by_cases hls : r.vb[j] < r.vb[j + 1]
              · have HX : Hid (vAt r.vb (j + 1) = true) := by unfold Hid; rw [vAt_succ hlt, hi, decide_eq_true hls]; rfl
                go_wp2
                go_quiet ((go_at_call 76; exact (in_any _ _ _ _).mono fun _ _ h => ⟨h.1, _, h.2⟩))
                go_wp2
                go_roundw
                case rel => exact ⟨j + 2, by go_num, by omega, below_drewN HB.out _, fun i hi => by
                              by_cases e : i = j + 1
                              · subst e; exact HX.out
                              · exact HA.out i (by omega)⟩
                case measure => simp [intOf]; omega
              · have HR : Hid (ruleB r = false) := by unfold Hid ruleB; rw [vbs_no hlt (by rw [vAt_succ hlt, decide_eq_false hls]; simp)]; rfl
                go_wp2
                go_quiet ((go_at_call 76; exact (in_any _ _ _ _).mono fun _ _ h => ⟨h.1, _, h.2⟩))
                go_wp2
                go_ret
                exact ⟨ret_bool HR.out.symm, below_drewN HX0.out _⟩
        · have HR : Hid (ruleB r = allB nameByte r.pf) := by
            unfold Hid ruleB
            rw [vbs_yes (by omega) HA.out, decide_eq_true HPOS.out, HKD.out, HTM.out, decide_eq_true h16]; rfl
          go_wp2
          go_loop [4] (fun i => ∃ q : Nat, q ≤ r.pf.size ∧ i = .int .i64 q ∧ (r.pf.data.toList.take q).all nameByte = true) (fun i => r.pf.size - (intOf i).toNat)
          case atStart => exact ⟨0, Nat.zero_le _, rfl, rfl⟩
          case round =>
            obtain ⟨q, hq, rfl, hallq⟩ := hrel
            have HAQ := hide hallq
            clear hallq
            by_cases hltq : q < r.pf.size
            · by_cases hn : nameByte r.pf[q] = true
              · go_wp2_with (go_at_call 77; refine (byte_any _ _).mono ?_; rintro e w' ⟨rfl, rfl⟩)
                go_round
                case rel => exact ⟨q + 1, by omega, by go_num, all_step HAQ.out hltq hn⟩
                case measure => simp [intOf]; omega
              · have hn' : nameByte r.pf[q] = false := by simpa using hn
                go_wp2_with (go_at_call 77; refine (byte_any _ _).mono ?_; rintro e w' ⟨rfl, rfl⟩)
                go_ret
                exact ⟨ret_bool (by rw [HR.out, all_stop hltq hn']), HX0.out⟩
            · go_wp2
              go_ret
              exact ⟨ret_bool (by rw [HR.out, all_end HAQ.out (by omega)]), HX0.out⟩
    | false =>
      have HTE : Hid (emptyOrName r.tm = nameB r.tm) := by unfold Hid emptyOrName; rw [h3]; rfl
      go_enter Try.func45, Try.ntmps45
      go_wp2_with fail
      refine (nameOk_any r.tm _ HZ.out.s2).mono ?_
      rintro e w2 ⟨rfl, rfl⟩
      cases h4 : nameB r.tm with
      | false =>
        have HR : Hid (ruleB r = false) := by unfold Hid ruleB; rw [HTE.out, h4]; simp
        go_wp2
        go_ret
        exact ⟨ret_bool HR.out.symm, one_al _ _⟩
      | true =>
        have HTM : Hid (emptyOrName r.tm = true) := by unfold Hid; rw [HTE.out, h4]
        go_wp2
        try simp only [hbl]
        try simp only [h2]
        try simp only [h4]
        generalize hWa : w.alloc _ = Wa
        have HBa : Hid (Below w.heap.size w Wa) := by rw [← hWa]; exact one_al _ _
        have FA : Hid (Box Wa w.heap.size #[.slice a r.vb.length cap, .string r.kd, .string r.tm, .string r.pf]) := by rw [← hWa]; exact Box.new _ _ _ _ rfl
        clear hWa
        have HVa := hide (HV.out.below HBa.out)
        go_loopw [3] (fun i wr => ∃ k : Nat, i = .int .i64 k ∧ k ≤ r.vb.length ∧ Below Wa.heap.size Wa wr ∧ ∀ i, i < k → vAt r.vb i = true) (fun i _ => r.vb.length - (intOf i).toNat)
        case atStart => exact ⟨0, rfl, by omega, Below.refl _ _, fun i h => by omega⟩
        case round =>
          obtain ⟨k, rfl, hk, hb, hall⟩ := hrel
          have HA := hide hall
          have HB := hide hb
          clear hall hb
          have g0 : wr.cell? ⟨w.heap.size, 0, none⟩ = some (.slice a r.vb.length cap) := (FA.out.on HB.out).cell 0
          have g3 : wr.cell? ⟨w.heap.size, 3, none⟩ = some (.string r.pf) := (FA.out.on HB.out).cell 3
          have HX0 : Hid (Below w.heap.size w wr) := bt HBa.out HB.out
          obtain ⟨b, off, rfl, hbw, hc⟩ := (HVa.out.below HB.out).full' hpos
          by_cases hlt : k < r.vb.length
          · have c0 := hc k hlt
            cases hi : inB 1 5 r.vb[k] with
            | false =>
              have HR : Hid (ruleB r = false) := by unfold Hid ruleB; rw [vbs_no hlt (vAt_in hlt hi)]; rfl
              cases k with
              | zero =>
                have c0 : wr.cell? ⟨b, off, none⟩ = some (.int .i64 r.vb[0]) := by simpa using c0
                go_wp2
                go_quiet ((go_at_call 76; exact (in_any _ _ _ _).mono fun _ _ h => ⟨h.1, _, h.2⟩))
                go_wp2
                go_ret
                exact ⟨ret_bool HR.out.symm, below_drewN HX0.out _⟩
              | succ j =>
                go_wp2
                go_quiet ((go_at_call 76; exact (in_any _ _ _ _).mono fun _ _ h => ⟨h.1, _, h.2⟩))
                go_wp2
                go_ret
                exact ⟨ret_bool HR.out.symm, below_drewN HX0.out _⟩
            | true =>
              cases k with
              | zero =>
                have c0 : wr.cell? ⟨b, off, none⟩ = some (.int .i64 r.vb[0]) := by simpa using c0
                have HX : Hid (vAt r.vb 0 = true) := by unfold Hid; rw [vAt_zero hlt]; exact hi
                go_wp2
                go_quiet ((go_at_call 76; exact (in_any _ _ _ _).mono fun _ _ h => ⟨h.1, _, h.2⟩))
                go_wp2
                go_roundw
                case rel => exact ⟨1, by go_num, by omega, below_drewN HB.out _, v_one HX.out⟩
                case measure => simp [intOf]; omega
              | succ j =>
                have cj := hc j (by omega)
                have hjw : IntKind.i64.wrap (j : Int) = j := by rw [IntKind.wrap_i64]; omega
                have hjl : j < r.vb.length := by omega
                have hdl : decide ((j : Int) + 1 < (r.vb.length : Int)) = true := by simp; omega
                have cj3 : ∀ n, (wr.drewN n).cell? ⟨b, off + j, none⟩ = some (.int .i64 r.vb[j]) := fun n => cj
                have c03 : ∀ n, (wr.drewN n).cell? ⟨b, off + (j + 1), none⟩ = some (.int .i64 r.vb[j + 1]) := fun n => c0
                by_cases hls : r.vb[j] < r.vb[j + 1]
                · have HX : Hid (vAt r.vb (j + 1) = true) := by unfold Hid; rw [vAt_succ hlt, hi, decide_eq_true hls]; rfl
                  go_wp2
                  go_quiet ((go_at_call 76; exact (in_any _ _ _ _).mono fun _ _ h => ⟨h.1, _, h.2⟩))
                  go_wp2
                  go_roundw
                  case rel => exact ⟨j + 2, by go_num, by omega, below_drewN HB.out _, fun i hi => by
                                by_cases e : i = j + 1
                                · subst e; exact HX.out
                                · exact HA.out i (by omega)⟩
                  case measure => simp [intOf]; omega
                · have HR : Hid (ruleB r = false) := by unfold Hid ruleB; rw [vbs_no hlt (by rw [vAt_succ hlt, decide_eq_false hls]; simp)]; rfl
                  go_wp2
                  go_quiet ((go_at_call 76; exact (in_any _ _ _ _).mono fun _ _ h => ⟨h.1, _, h.2⟩))
                  go_wp2
                  go_ret
                  exact ⟨ret_bool HR.out.symm, below_drewN HX0.out _⟩
          · have HR : Hid (ruleB r = allB nameByte r.pf) := by
              unfold Hid ruleB
              rw [vbs_yes (by omega) HA.out, decide_eq_true HPOS.out, HKD.out, HTM.out, decide_eq_true h16]; rfl
            go_wp2
            go_loop [4] (fun i => ∃ q : Nat, q ≤ r.pf.size ∧ i = .int .i64 q ∧ (r.pf.data.toList.take q).all nameByte = true) (fun i => r.pf.size - (intOf i).toNat)
            case atStart => exact ⟨0, Nat.zero_le _, rfl, rfl⟩
            case round =>
              obtain ⟨q, hq, rfl, hallq⟩ := hrel
              have HAQ := hide hallq
              clear hallq
              by_cases hltq : q < r.pf.size
              · by_cases hn : nameByte r.pf[q] = true
                · go_wp2_with (go_at_call 77; refine (byte_any _ _).mono ?_; rintro e w' ⟨rfl, rfl⟩)
                  go_round
                  case rel => exact ⟨q + 1, by omega, by go_num, all_step HAQ.out hltq hn⟩
                  case measure => simp [intOf]; omega
                · have hn' : nameByte r.pf[q] = false := by simpa using hn
                  go_wp2_with (go_at_call 77; refine (byte_any _ _).mono ?_; rintro e w' ⟨rfl, rfl⟩)
                  go_ret
                  exact ⟨ret_bool (by rw [HR.out, all_stop hltq hn']), HX0.out⟩
              · go_wp2
                go_ret
                exact ⟨ret_bool (by rw [HR.out, all_end HAQ.out (by omega)]), HX0.out⟩
  | false =>
    have HKE : Hid (emptyOrName r.kd = nameB r.kd) := by unfold Hid emptyOrName; rw [h1]; rfl
    go_enter Try.func45, Try.ntmps45
    go_wp2_with fail
    refine (nameOk_any r.kd _ HZ.out.s1).mono ?_
    rintro e w1 ⟨rfl, rfl⟩
    cases h2 : nameB r.kd with
    | false =>
      have HR : Hid (ruleB r = false) := by unfold Hid ruleB; rw [HKE.out, h2]; simp
      go_wp2
      go_ret
      exact ⟨ret_bool HR.out.symm, one_al _ _⟩
    | true =>
      have HKD : Hid (emptyOrName r.kd = true) := by unfold Hid; rw [HKE.out, h2]
      cases h3 : r.tm.toList.isEmpty with
      | true =>
        have HTM : Hid (emptyOrName r.tm = true) := by unfold Hid emptyOrName; rw [h3]; rfl
        go_wp2
        try simp only [hbl]
        try simp only [h2]
        try simp only [h4]
        generalize hWa : w.alloc _ = Wa
        have HBa : Hid (Below w.heap.size w Wa) := by rw [← hWa]; exact one_al _ _
        have FA : Hid (Box Wa w.heap.size #[.slice a r.vb.length cap, .string r.kd, .string r.tm, .string r.pf]) := by rw [← hWa]; exact Box.new _ _ _ _ rfl
        clear hWa
        have HVa := hide (HV.out.below HBa.out)
        go_loopw [3] (fun i wr => ∃ k : Nat, i = .int .i64 k ∧ k ≤ r.vb.length ∧ Below Wa.heap.size Wa wr ∧ ∀ i, i < k → vAt r.vb i = true) (fun i _ => r.vb.length - (intOf i).toNat)
        case atStart => exact ⟨0, rfl, by omega, Below.refl _ _, fun i h => by omega⟩
        case round =>
          obtain ⟨k, rfl, hk, hb, hall⟩ := hrel
          have HA := hide hall
          have HB := hide hb
          clear hall hb
          have g0 : wr.cell? ⟨w.heap.size, 0, none⟩ = some (.slice a r.vb.length cap) := (FA.out.on HB.out).cell 0
          have g3 : wr.cell? ⟨w.heap.size, 3, none⟩ = some (.string r.pf) := (FA.out.on HB.out).cell 3
          have HX0 : Hid (Below w.heap.size w wr) := bt HBa.out HB.out
          obtain ⟨b, off, rfl, hbw, hc⟩ := (HVa.out.below HB.out).full' hpos
          by_cases hlt : k < r.vb.length
          · have c0 := hc k hlt
            cases hi : inB 1 5 r.vb[k] with
            | false =>
              have HR : Hid (ruleB r = false) := by unfold Hid ruleB; rw [vbs_no hlt (vAt_in hlt hi)]; rfl
              cases k with
              | zero =>
                have c0 : wr.cell? ⟨b, off, none⟩ = some (.int .i64 r.vb[0]) := by simpa using c0
                go_wp2
                go_quiet ((go_at_call 76; exact (in_any _ _ _ _).mono fun _ _ h => ⟨h.1, _, h.2⟩))
                go_wp2
                go_ret
                exact ⟨ret_bool HR.out.symm, below_drewN HX0.out _⟩
              | succ j =>
                go_wp2
                go_quiet ((go_at_call 76; exact (in_any _ _ _ _).mono fun _ _ h => ⟨h.1, _, h.2⟩))
                go_wp2
                go_ret
                exact ⟨ret_bool HR.out.symm, below_drewN HX0.out _⟩
            | true =>
              cases k with
              | zero =>
                have c0 : wr.cell? ⟨b, off, none⟩ = some (.int .i64 r.vb[0]) := by simpa using c0
                have HX : Hid (vAt r.vb 0 = true) := by unfold Hid; rw [vAt_zero hlt]; exact hi
                go_wp2
                go_quiet ((go_at_call 76; exact (in_any _ _ _ _).mono fun _ _ h => ⟨h.1, _, h.2⟩))
                go_wp2
                go_roundw
                case rel => exact ⟨1, by go_num, by omega, below_drewN HB.out _, v_one HX.out⟩
                case measure => simp [intOf]; omega
              | succ j =>
                have cj := hc j (by omega)
                have hjw : IntKind.i64.wrap (j : Int) = j := by rw [IntKind.wrap_i64]; omega
                have hjl : j < r.vb.length := by omega
                have hdl : decide ((j : Int) + 1 < (r.vb.length : Int)) = true := by simp; omega
                have cj3 : ∀ n, (wr.drewN n).cell? ⟨b, off + j, none⟩ = some (.int .i64 r.vb[j]) := fun n => cj
                have c03 : ∀ n, (wr.drewN n).cell? ⟨b, off + (j + 1), none⟩ = some (.int .i64 r.vb[j + 1]) := fun n => c0
                by_cases hls : r.vb[j] < r.vb[j + 1]
                · have HX : Hid (vAt r.vb (j + 1) = true) := by unfold Hid; rw [vAt_succ hlt, hi, decide_eq_true hls]; rfl
                  go_wp2
                  go_quiet ((go_at_call 76; exact (in_any _ _ _ _).mono fun _ _ h => ⟨h.1, _, h.2⟩))
                  go_wp2
                  go_roundw
                  case rel => exact ⟨j + 2, by go_num, by omega, below_drewN HB.out _, fun i hi => by
                                by_cases e : i = j + 1
                                · subst e; exact HX.out
                                · exact HA.out i (by omega)⟩
                  case measure => simp [intOf]; omega
                · have HR : Hid (ruleB r = false) := by unfold Hid ruleB; rw [vbs_no hlt (by rw [vAt_succ hlt, decide_eq_false hls]; simp)]; rfl
                  go_wp2
                  go_quiet ((go_at_call 76; exact (in_any _ _ _ _).mono fun _ _ h => ⟨h.1, _, h.2⟩))
                  go_wp2
                  go_ret
                  exact ⟨ret_bool HR.out.symm, below_drewN HX0.out _⟩
          · have HR : Hid (ruleB r = allB nameByte r.pf) := by
              unfold Hid ruleB
              rw [vbs_yes (by omega) HA.out, decide_eq_true HPOS.out, HKD.out, HTM.out, decide_eq_true h16]; rfl
            go_wp2
            go_loop [4] (fun i => ∃ q : Nat, q ≤ r.pf.size ∧ i = .int .i64 q ∧ (r.pf.data.toList.take q).all nameByte = true) (fun i => r.pf.size - (intOf i).toNat)
            case atStart => exact ⟨0, Nat.zero_le _, rfl, rfl⟩
            case round =>
              obtain ⟨q, hq, rfl, hallq⟩ := hrel
              have HAQ := hide hallq
              clear hallq
              by_cases hltq : q < r.pf.size
              · by_cases hn : nameByte r.pf[q] = true
                · go_wp2_with (go_at_call 77; refine (byte_any _ _).mono ?_; rintro e w' ⟨rfl, rfl⟩)
                  go_round
                  case rel => exact ⟨q + 1, by omega, by go_num, all_step HAQ.out hltq hn⟩
                  case measure => simp [intOf]; omega
                · have hn' : nameByte r.pf[q] = false := by simpa using hn
                  go_wp2_with (go_at_call 77; refine (byte_any _ _).mono ?_; rintro e w' ⟨rfl, rfl⟩)
                  go_ret
                  exact ⟨ret_bool (by rw [HR.out, all_stop hltq hn']), HX0.out⟩
              · go_wp2
                go_ret
                exact ⟨ret_bool (by rw [HR.out, all_end HAQ.out (by omega)]), HX0.out⟩
      | false =>
        have HTE : Hid (emptyOrName r.tm = nameB r.tm) := by unfold Hid emptyOrName; rw [h3]; rfl
        go_wp2_with fail
        refine (nameOk_any r.tm _ HZ.out.s2).mono ?_
        rintro e w2 ⟨rfl, rfl⟩
        cases h4 : nameB r.tm with
        | false =>
          have HR : Hid (ruleB r = false) := by unfold Hid ruleB; rw [HTE.out, h4]; simp
          go_wp2
          go_ret
          exact ⟨ret_bool HR.out.symm, one_al _ _⟩
        | true =>
          have HTM : Hid (emptyOrName r.tm = true) := by unfold Hid; rw [HTE.out, h4]
          go_wp2
          try simp only [hbl]
          try simp only [h2]
          try simp only [h4]
          generalize hWa : w.alloc _ = Wa
          have HBa : Hid (Below w.heap.size w Wa) := by rw [← hWa]; exact one_al _ _
          have FA : Hid (Box Wa w.heap.size #[.slice a r.vb.length cap, .string r.kd, .string r.tm, .string r.pf]) := by rw [← hWa]; exact Box.new _ _ _ _ rfl
          clear hWa
          have HVa := hide (HV.out.below HBa.out)
          go_loopw [3] (fun i wr => ∃ k : Nat, i = .int .i64 k ∧ k ≤ r.vb.length ∧ Below Wa.heap.size Wa wr ∧ ∀ i, i < k → vAt r.vb i = true) (fun i _ => r.vb.length - (intOf i).toNat)
          case atStart => exact ⟨0, rfl, by omega, Below.refl _ _, fun i h => by omega⟩
          case round =>
            obtain ⟨k, rfl, hk, hb, hall⟩ := hrel
            have HA := hide hall
            have HB := hide hb
            clear hall hb
            have g0 : wr.cell? ⟨w.heap.size, 0, none⟩ = some (.slice a r.vb.length cap) := (FA.out.on HB.out).cell 0
            have g3 : wr.cell? ⟨w.heap.size, 3, none⟩ = some (.string r.pf) := (FA.out.on HB.out).cell 3
            have HX0 : Hid (Below w.heap.size w wr) := bt HBa.out HB.out
            obtain ⟨b, off, rfl, hbw, hc⟩ := (HVa.out.below HB.out).full' hpos
            by_cases hlt : k < r.vb.length
            · have c0 := hc k hlt
              cases hi : inB 1 5 r.vb[k] with
              | false =>
                have HR : Hid (ruleB r = false) := by unfold Hid ruleB; rw [vbs_no hlt (vAt_in hlt hi)]; rfl
                cases k with
                | zero =>
                  have c0 : wr.cell? ⟨b, off, none⟩ = some (.int .i64 r.vb[0]) := by simpa using c0
                  go_wp2
                  go_quiet ((go_at_call 76; exact (in_any _ _ _ _).mono fun _ _ h => ⟨h.1, _, h.2⟩))
                  go_wp2
                  go_ret
                  exact ⟨ret_bool HR.out.symm, below_drewN HX0.out _⟩
                | succ j =>
                  go_wp2
                  go_quiet ((go_at_call 76; exact (in_any _ _ _ _).mono fun _ _ h => ⟨h.1, _, h.2⟩))
                  go_wp2
                  go_ret
                  exact ⟨ret_bool HR.out.symm, below_drewN HX0.out _⟩
              | true =>
                cases k with
                | zero =>
                  have c0 : wr.cell? ⟨b, off, none⟩ = some (.int .i64 r.vb[0]) := by simpa using c0
                  have HX : Hid (vAt r.vb 0 = true) := by unfold Hid; rw [vAt_zero hlt]; exact hi
                  go_wp2
                  go_quiet ((go_at_call 76; exact (in_any _ _ _ _).mono fun _ _ h => ⟨h.1, _, h.2⟩))
                  go_wp2
                  go_roundw
                  case rel => exact ⟨1, by go_num, by omega, below_drewN HB.out _, v_one HX.out⟩
                  case measure => simp [intOf]; omega
                | succ j =>
                  have cj := hc j (by omega)
                  have hjw : IntKind.i64.wrap (j : Int) = j := by rw [IntKind.wrap_i64]; omega
                  have hjl : j < r.vb.length := by omega
                  have hdl : decide ((j : Int) + 1 < (r.vb.length : Int)) = true := by simp; omega
                  have cj3 : ∀ n, (wr.drewN n).cell? ⟨b, off + j, none⟩ = some (.int .i64 r.vb[j]) := fun n => cj
                  have c03 : ∀ n, (wr.drewN n).cell? ⟨b, off + (j + 1), none⟩ = some (.int .i64 r.vb[j + 1]) := fun n => c0
                  by_cases hls : r.vb[j] < r.vb[j + 1]
                  · have HX : Hid (vAt r.vb (j + 1) = true) := by unfold Hid; rw [vAt_succ hlt, hi, decide_eq_true hls]; rfl
                    go_wp2
                    go_quiet ((go_at_call 76; exact (in_any _ _ _ _).mono fun _ _ h => ⟨h.1, _, h.2⟩))
                    go_wp2
                    go_roundw
                    case rel => exact ⟨j + 2, by go_num, by omega, below_drewN HB.out _, fun i hi => by
                                  by_cases e : i = j + 1
                                  · subst e; exact HX.out
                                  · exact HA.out i (by omega)⟩
                    case measure => simp [intOf]; omega
                  · have HR : Hid (ruleB r = false) := by unfold Hid ruleB; rw [vbs_no hlt (by rw [vAt_succ hlt, decide_eq_false hls]; simp)]; rfl
                    go_wp2
                    go_quiet ((go_at_call 76; exact (in_any _ _ _ _).mono fun _ _ h => ⟨h.1, _, h.2⟩))
                    go_wp2
                    go_ret
                    exact ⟨ret_bool HR.out.symm, below_drewN HX0.out _⟩
            · have HR : Hid (ruleB r = allB nameByte r.pf) := by
                unfold Hid ruleB
                rw [vbs_yes (by omega) HA.out, decide_eq_true HPOS.out, HKD.out, HTM.out, decide_eq_true h16]; rfl
              go_wp2
              go_loop [4] (fun i => ∃ q : Nat, q ≤ r.pf.size ∧ i = .int .i64 q ∧ (r.pf.data.toList.take q).all nameByte = true) (fun i => r.pf.size - (intOf i).toNat)
              case atStart => exact ⟨0, Nat.zero_le _, rfl, rfl⟩
              case round =>
                obtain ⟨q, hq, rfl, hallq⟩ := hrel
                have HAQ := hide hallq
                clear hallq
                by_cases hltq : q < r.pf.size
                · by_cases hn : nameByte r.pf[q] = true
                  · go_wp2_with (go_at_call 77; refine (byte_any _ _).mono ?_; rintro e w' ⟨rfl, rfl⟩)
                    go_round
                    case rel => exact ⟨q + 1, by omega, by go_num, all_step HAQ.out hltq hn⟩
                    case measure => simp [intOf]; omega
                  · have hn' : nameByte r.pf[q] = false := by simpa using hn
                    go_wp2_with (go_at_call 77; refine (byte_any _ _).mono ?_; rintro e w' ⟨rfl, rfl⟩)
                    go_ret
                    exact ⟨ret_bool (by rw [HR.out, all_stop hltq hn']), HX0.out⟩
                · go_wp2
                  go_ret
                  exact ⟨ret_bool (by rw [HR.out, all_end HAQ.out (by omega)]), HX0.out⟩
end Go.Proofs.Ytmaagbnjpdijnaa

namespace Go.Proofs.Ytmaagbnjpdijnaa
open Go.RowKit Go.Deep

end Go.Proofs.Ytmaagbnjpdijnaa

