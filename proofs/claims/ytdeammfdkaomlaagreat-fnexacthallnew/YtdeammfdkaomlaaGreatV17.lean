import Derived.Test.YtdeammfdkaomlaaGreatV12
import Derived.Test.YtdeammfdkaomlaaGreatV16
import Derived.Deep.RegionHeld3
namespace Go.Proofs.YtdeammfdkaomlaaGreat
open Go.RowKit Go.Deep

def vAt (L : List Int) (i : Nat) : Bool := match L[i]? with
  | none => false
  | some v => inB 1 5 v && (i == 0 || decide ((L[i - 1]?).getD 0 < v))
def vbsB (L : List Int) : Bool := decide (0 < L.length) && (List.range L.length).all (vAt L)
theorem vAt_zero {L : List Int} (h : 0 < L.length) : vAt L 0 = inB 1 5 L[0] := by unfold vAt; rw [List.getElem?_eq_getElem h]; simp
theorem vAt_succ {L : List Int} {j : Nat} (h : j + 1 < L.length) : vAt L (j + 1) = (inB 1 5 L[j + 1] && decide (L[j] < L[j + 1])) := by
  unfold vAt; rw [List.getElem?_eq_getElem h, Nat.add_sub_cancel, List.getElem?_eq_getElem (by omega)]; simp
theorem vAt_in {L : List Int} {k : Nat} (h : k < L.length) (hb : inB 1 5 L[k] = false) : vAt L k = false := by
  unfold vAt; rw [List.getElem?_eq_getElem h]; simp [hb]
theorem vbs_no {L : List Int} {k : Nat} (hk : k < L.length) (h : vAt L k = false) : vbsB L = false := by
  unfold vbsB; rw [range_not hk h]; simp
theorem vbs_yes {L : List Int} {k : Nat} (hk : L.length ≤ k) (hall : ∀ i, i < k → vAt L i = true) : vbsB L = decide (0 < L.length) := by
  unfold vbsB; rw [range_all (fun i hi => hall i (by omega))]; simp
def ruleB (r : Ru) : Bool := vbsB r.vb && emptyOrName r.kd && emptyOrName r.tm && decide ((r.pf.size : Int) ≤ 16) && allB nameByte r.pf
end Go.Proofs.YtdeammfdkaomlaaGreat
namespace Go.Proofs.YtdeammfdkaomlaaGreat
open Go.RowKit Go.Deep

theorem v_one {L : List Int} (h : vAt L 0 = true) : ∀ i, i < 1 → vAt L i = true := fun i hi => by
  have e : i = 0 := by omega
  subst e
  exact h

set_option maxHeartbeats 1000000 in
theorem verbsOk_any (lo : Nat) (v : Value) (L : List Int) (w : World) (hv : IntsIn lo w v L) :
    Calls Tryz.prog 164 #[v] w fun e w' => e = .returned (.bool (vbsB L)) ∧ w' = w := by
  by_cases hL : L = []
  · subst hL
    obtain ⟨a, cap, rfl⟩ := hv.form
    clear hv
    go_enter Tryz.func164, Tryz.ntmps164
    go_wp2
    go_loop [7] (fun i => i = .int .i64 0) (fun _ => 0)
    case atStart => rfl
    case round =>
      subst hrel
      go_wp2
      go_ret
      exact ⟨rfl, rfl⟩
  · obtain ⟨b, off, cap, rfl, hm, hbw, hc⟩ := hv.full hL
    clear hv
    unfold maxLen at hm
    go_enter Tryz.func164, Tryz.ntmps164
    go_wp2
    go_loop [7] (fun i => ∃ k : Nat, i = .int .i64 k ∧ k ≤ L.length ∧ ∀ i, i < k → vAt L i = true) (fun i => L.length - (intOf i).toNat)
    case atStart => exact ⟨0, rfl, by omega, fun i h => by omega⟩
    case round =>
      obtain ⟨k, rfl, hk, hall⟩ := hrel
      have HA := hide hall
      clear hall
      by_cases hlt : k < L.length
      · have c0 := hc k hlt
        by_cases h1 : L[k] < 1
        · have HR : Hid (vbsB L = false) := vbs_no hlt (vAt_in hlt (by unfold inB; simp; omega))
          go_wp2
          go_ret
          exact ⟨ret_bool HR.out.symm, rfl⟩
        by_cases h5 : 5 < L[k]
        · have HR : Hid (vbsB L = false) := vbs_no hlt (vAt_in hlt (by unfold inB; simp; omega))
          go_wp2
          go_ret
          exact ⟨ret_bool HR.out.symm, rfl⟩
        have HI : Hid (inB 1 5 L[k] = true) := by unfold Hid inB; simp; omega
        cases k with
        | zero =>
          have c0 : w.cell? ⟨b, off, none⟩ = some (.int .i64 L[0]) := by simpa using c0
          have HX : Hid (vAt L 0 = true) := by unfold Hid; rw [vAt_zero hlt]; exact HI.out
          go_wp2
          go_round
          case rel => exact ⟨1, by go_num, by omega, v_one HX.out⟩
          case measure => simp [intOf]; omega
        | succ j =>
          have cj := hc j (by omega)
          by_cases hls : L[j] < L[j + 1]
          · have HX : Hid (vAt L (j + 1) = true) := by unfold Hid; rw [vAt_succ hlt, HI.out, decide_eq_true hls]; rfl
            go_wp2
            go_round
            case rel => exact ⟨j + 2, by go_num, by omega, fun i hi => by
                          by_cases e : i = j + 1
                          · subst e; exact HX.out
                          · exact HA.out i (by omega)⟩
            case measure => simp [intOf]; omega
          · have HR : Hid (vbsB L = false) := vbs_no hlt (by rw [vAt_succ hlt, decide_eq_false hls]; simp)
            go_wp2
            go_ret
            exact ⟨ret_bool HR.out.symm, rfl⟩
      · have HR : Hid (vbsB L = decide (0 < L.length)) := vbs_yes (by omega) HA.out
        have hpos : 0 < L.length := List.length_pos_iff.2 hL
        have HT : Hid (decide (0 < L.length) = true) := by unfold Hid; simpa using hpos
        go_wp2
        go_ret
        exact ⟨ret_bool (by rw [HR.out, HT.out]), rfl⟩

set_option maxHeartbeats 2000000 in
theorem implRule_any (lo : Nat) (r : Ru) (vv : Value) (w : World) (hv : IntsIn lo w vv r.vb) (hz : RuSize r) :
    Calls Tryz.prog 102 #[.agg #[vv, .string r.kd, .string r.tm, .string r.pf]] w fun e w' => e = .returned (.bool (ruleB r)) ∧ Below w.heap.size w w' := by
  have HV := hide hv
  have HZ := hide hz
  obtain ⟨a, cap, rfl⟩ := hv.form
  clear hv hz
  have hsz := HZ.out.s3
  unfold maxLen at hsz
  go_enter Tryz.func102, Tryz.ntmps102
  go_wp2_with fail
  generalize hWa : w.alloc _ = Wa
  have HBa : Hid (Below w.heap.size w Wa) := by rw [← hWa]; exact one_al _ _
  have FA : Hid (Box Wa w.heap.size #[.slice a r.vb.length cap, .string r.kd, .string r.tm, .string r.pf]) := by rw [← hWa]; exact Box.new _ _ _ _ rfl
  clear hWa
  refine (verbsOk_any lo _ r.vb _ (HV.out.below HBa.out)).mono ?_
  rintro e w1 ⟨rfl, rfl⟩
  have a1 : w1.cell? ⟨w.heap.size, 1, none⟩ = some (.string r.kd) := FA.out.cell 1
  have a2 : w1.cell? ⟨w.heap.size, 2, none⟩ = some (.string r.tm) := FA.out.cell 2
  have a3 : w1.cell? ⟨w.heap.size, 3, none⟩ = some (.string r.pf) := FA.out.cell 3
  cases q1 : vbsB r.vb with
  | false =>
    have HR : Hid (ruleB r = false) := by unfold Hid ruleB; rw [q1]; rfl
    go_wp2
    go_ret
    exact ⟨ret_bool HR.out.symm, HBa.out⟩
  | true =>
    go_wp2_with fail
    refine (emptyOrName_any r.kd _ HZ.out.s1).mono ?_
    rintro e w2 ⟨rfl, rfl⟩
    cases q2 : emptyOrName r.kd with
    | false =>
      have HR : Hid (ruleB r = false) := by unfold Hid ruleB; rw [q1, q2]; rfl
      go_wp2
      go_ret
      exact ⟨ret_bool HR.out.symm, HBa.out⟩
    | true =>
      go_wp2_with fail
      refine (emptyOrName_any r.tm _ HZ.out.s2).mono ?_
      rintro e w3 ⟨rfl, rfl⟩
      cases q3 : emptyOrName r.tm with
      | false =>
        have HR : Hid (ruleB r = false) := by unfold Hid ruleB; rw [q1, q2, q3]; rfl
        go_wp2
        go_ret
        exact ⟨ret_bool HR.out.symm, HBa.out⟩
      | true =>
        by_cases q4 : (r.pf.size : Int) ≤ 16
        · have HR : Hid (ruleB r = allB nameByte r.pf) := by unfold Hid ruleB; rw [q1, q2, q3, decide_eq_true q4]; rfl
          go_wp2_with fail
          refine (nameBytes_any r.pf _ HZ.out.s3).mono ?_
          rintro e w4 ⟨rfl, rfl⟩
          generalize allB nameByte r.pf = Q at *
          go_wp2
          go_ret
          exact ⟨ret_bool HR.out.symm, HBa.out⟩
        · have HR : Hid (ruleB r = false) := by unfold Hid ruleB; rw [decide_eq_false q4]; simp
          go_wp2
          go_ret
          exact ⟨ret_bool HR.out.symm, HBa.out⟩
end Go.Proofs.YtdeammfdkaomlaaGreat
namespace Go.Proofs.YtdeammfdkaomlaaGreat
open Go.RowKit Go.Deep

set_option maxRecDepth 20000 in
set_option maxHeartbeats 4000000 in
theorem specRule_any (lr : Nat) (r : Ru) (vv : Value) (w : World) (hv : IntsIn lr w vv r.vb) (hz : RuSize r) :
    Calls Tryz.prog 94 #[.agg #[vv, .string r.kd, .string r.tm, .string r.pf]] w fun e w' => e = .returned (.bool (ruleB r)) ∧ Below w.heap.size w w' := by
  have HV := hide hv
  have HZ := hide hz
  have hm := hv.max
  unfold maxLen at hm
  have hsz := hz.s3
  unfold maxLen at hsz
  obtain ⟨a, cap, rfl⟩ := hv.form
  clear hv hz
  by_cases hpos : 0 < r.vb.length
  case neg =>
    have HR : Hid (ruleB r = false) := by unfold Hid ruleB vbsB; rw [decide_eq_false hpos]; rfl
    have h0 : r.vb.length = 0 := by omega
    rw [h0]
    clear hm
    go_enter Tryz.func94, Tryz.ntmps94
    go_wp2
    go_ret
    exact ⟨ret_bool HR.out.symm, one_al _ _⟩
  have HPOS := hide hpos
  have hbl : ((r.vb.length : Int) == 0) = false := by rw [beq_eq_false_iff_ne]; omega
  have hnil : ¬ r.vb = [] := fun e => by rw [e] at hpos; simp at hpos
  by_cases h16 : (r.pf.size : Int) ≤ 16
  case neg =>
    have HR : Hid (ruleB r = false) := by unfold Hid ruleB; rw [decide_eq_false h16]; simp
    have h16' : (16 : Int) < r.pf.size := by omega
    go_enter Tryz.func94, Tryz.ntmps94
    go_wp2
    go_ret
    exact ⟨ret_bool HR.out.symm, one_al _ _⟩
  have h16p : ¬ (16 : Int) < r.pf.size := by omega
  cases h1 : r.kd.toList.isEmpty with
  | true =>
    have HKD : Hid (emptyOrName r.kd = true) := by unfold Hid emptyOrName; rw [h1]; rfl
    cases h3 : r.tm.toList.isEmpty with
    | true =>
      have HTM : Hid (emptyOrName r.tm = true) := by unfold Hid emptyOrName; rw [h3]; rfl
      go_enter Tryz.func94, Tryz.ntmps94
      go_wp2
      try simp only [hbl]
      try simp only [h2]
      try simp only [h4]
      generalize hWa : w.alloc _ = Wa
      have HBa : Hid (Below w.heap.size w Wa) := by rw [← hWa]; exact one_al _ _
      have FA : Hid (Box Wa w.heap.size #[.slice a r.vb.length cap, .string r.kd, .string r.tm, .string r.pf]) := by rw [← hWa]; exact Box.new _ _ _ _ rfl
      clear hWa
      have HVa := hide (HV.out.below HBa.out)
      go_loopw [3] (fun i wr => ∃ k : Nat, i = .int .i64 k ∧ k ≤ r.vb.length ∧ Below Wa.heap.size Wa wr ∧ ∀ i, i < k → vAt r.vb i = true) (fun i _ => r.vb.length - (intOf i).toNat)
      case atStart => exact ⟨0, rfl, by omega, Below.refl _ _, fun i h => by omega⟩
      case round =>
        obtain ⟨k, rfl, hk, hb, hall⟩ := hrel
        have HA := hide hall
        have HB := hide hb
        clear hall hb
        have g0 : wr.cell? ⟨w.heap.size, 0, none⟩ = some (.slice a r.vb.length cap) := (FA.out.on HB.out).cell 0
        have g3 : wr.cell? ⟨w.heap.size, 3, none⟩ = some (.string r.pf) := (FA.out.on HB.out).cell 3
        have HX0 : Hid (Below w.heap.size w wr) := bt HBa.out HB.out
        obtain ⟨b, off, rfl, hbw, hc⟩ := (HVa.out.below HB.out).full' hpos
        by_cases hlt : k < r.vb.length
        · have c0 := hc k hlt
          cases hi : inB 1 5 r.vb[k] with
          | false =>
            have HR : Hid (ruleB r = false) := by unfold Hid ruleB; rw [vbs_no hlt (vAt_in hlt hi)]; rfl
            cases k with
            | zero =>
              have c0 : wr.cell? ⟨b, off, none⟩ = some (.int .i64 r.vb[0]) := by simpa using c0
              go_wp2
              go_quiet ((go_at_call 27; exact (in_any _ _ _ _).mono fun _ _ h => ⟨h.1, _, h.2⟩))
              go_wp2
              go_ret
              exact ⟨ret_bool HR.out.symm, below_drewN HX0.out _⟩
            | succ j =>
              go_wp2
              go_quiet ((go_at_call 27; exact (in_any _ _ _ _).mono fun _ _ h => ⟨h.1, _, h.2⟩))
              go_wp2
              go_ret
              exact ⟨ret_bool HR.out.symm, below_drewN HX0.out _⟩
          | true =>
            cases k with
            | zero =>
              have c0 : wr.cell? ⟨b, off, none⟩ = some (.int .i64 r.vb[0]) := by simpa using c0
              have HX : Hid (vAt r.vb 0 = true) := by unfold Hid; rw [vAt_zero hlt]; exact hi
              go_wp2
              go_quiet ((go_at_call 27; exact (in_any _ _ _ _).mono fun _ _ h => ⟨h.1, _, h.2⟩))
              go_wp2
              go_roundw
              case rel => exact ⟨1, by go_num, by omega, below_drewN HB.out _, v_one HX.out⟩
              case measure => simp [intOf]; omega
            | succ j =>
              have cj := hc j (by omega)
              have hjw : IntKind.i64.wrap (j : Int) = j := by rw [IntKind.wrap_i64]; omega
              have hjl : j < r.vb.length := by omega
              have hdl : decide ((j : Int) + 1 < (r.vb.length : Int)) = true := by simp; omega
              have cj3 : ∀ n, (wr.drewN n).cell? ⟨b, off + j, none⟩ = some (.int .i64 r.vb[j]) := fun n => cj
              have c03 : ∀ n, (wr.drewN n).cell? ⟨b, off + (j + 1), none⟩ = some (.int .i64 r.vb[j + 1]) := fun n => c0
              by_cases hls : r.vb[j] < r.vb[j + 1]
              · have HX : Hid (vAt r.vb (j + 1) = true) := by unfold Hid; rw [vAt_succ hlt, hi, decide_eq_true hls]; rfl
                go_wp2
                go_quiet ((go_at_call 27; exact (in_any _ _ _ _).mono fun _ _ h => ⟨h.1, _, h.2⟩))
                go_wp2
                go_roundw
                case rel => exact ⟨j + 2, by go_num, by omega, below_drewN HB.out _, fun i hi => by
                              by_cases e : i = j + 1
                              · subst e; exact HX.out
                              · exact HA.out i (by omega)⟩
                case measure => simp [intOf]; omega
              · have HR : Hid (ruleB r = false) := by unfold Hid ruleB; rw [vbs_no hlt (by rw [vAt_succ hlt, decide_eq_false hls]; simp)]; rfl
                go_wp2
                go_quiet ((go_at_call 27; exact (in_any _ _ _ _).mono fun _ _ h => ⟨h.1, _, h.2⟩))
                go_wp2
                go_ret
                exact ⟨ret_bool HR.out.symm, below_drewN HX0.out _⟩
        · have HR : Hid (ruleB r = allB nameByte r.pf) := by
            unfold Hid ruleB
            rw [vbs_yes (by omega) HA.out, decide_eq_true HPOS.out, HKD.out, HTM.out, decide_eq_true h16]; rfl
          go_wp2
          go_loop [4] (fun i => ∃ q : Nat, q ≤ r.pf.size ∧ i = .int .i64 q ∧ (r.pf.data.toList.take q).all nameByte = true) (fun i => r.pf.size - (intOf i).toNat)
          case atStart => exact ⟨0, Nat.zero_le _, rfl, rfl⟩
          case round =>
            obtain ⟨q, hq, rfl, hallq⟩ := hrel
            have HAQ := hide hallq
            clear hallq
            by_cases hltq : q < r.pf.size
            · by_cases hn : nameByte r.pf[q] = true
              · go_wp2_with (go_at_call 159; refine (byte_any _ _).mono ?_; rintro e w' ⟨rfl, rfl⟩)
                go_round
                case rel => exact ⟨q + 1, by omega, by go_num, all_step HAQ.out hltq hn⟩
                case measure => simp [intOf]; omega
              · have hn' : nameByte r.pf[q] = false := by simpa using hn
                go_wp2_with (go_at_call 159; refine (byte_any _ _).mono ?_; rintro e w' ⟨rfl, rfl⟩)
                go_ret
                exact ⟨ret_bool (by rw [HR.out, all_stop hltq hn']), HX0.out⟩
            · go_wp2
              go_ret
              exact ⟨ret_bool (by rw [HR.out, all_end HAQ.out (by omega)]), HX0.out⟩
    | false =>
      have HTE : Hid (emptyOrName r.tm = nameB r.tm) := by unfold Hid emptyOrName; rw [h3]; rfl
      go_enter Tryz.func94, Tryz.ntmps94
      go_wp2_with fail
      refine (nameOk_any r.tm _ HZ.out.s2).mono ?_
      rintro e w2 ⟨rfl, rfl⟩
      cases h4 : nameB r.tm with
      | false =>
        have HR : Hid (ruleB r = false) := by unfold Hid ruleB; rw [HTE.out, h4]; simp
        go_wp2
        go_ret
        exact ⟨ret_bool HR.out.symm, one_al _ _⟩
      | true =>
        have HTM : Hid (emptyOrName r.tm = true) := by unfold Hid; rw [HTE.out, h4]
        go_wp2
        try simp only [hbl]
        try simp only [h2]
        try simp only [h4]
        generalize hWa : w.alloc _ = Wa
        have HBa : Hid (Below w.heap.size w Wa) := by rw [← hWa]; exact one_al _ _
        have FA : Hid (Box Wa w.heap.size #[.slice a r.vb.length cap, .string r.kd, .string r.tm, .string r.pf]) := by rw [← hWa]; exact Box.new _ _ _ _ rfl
        clear hWa
        have HVa := hide (HV.out.below HBa.out)
        go_loopw [3] (fun i wr => ∃ k : Nat, i = .int .i64 k ∧ k ≤ r.vb.length ∧ Below Wa.heap.size Wa wr ∧ ∀ i, i < k → vAt r.vb i = true) (fun i _ => r.vb.length - (intOf i).toNat)
        case atStart => exact ⟨0, rfl, by omega, Below.refl _ _, fun i h => by omega⟩
        case round =>
          obtain ⟨k, rfl, hk, hb, hall⟩ := hrel
          have HA := hide hall
          have HB := hide hb
          clear hall hb
          have g0 : wr.cell? ⟨w.heap.size, 0, none⟩ = some (.slice a r.vb.length cap) := (FA.out.on HB.out).cell 0
          have g3 : wr.cell? ⟨w.heap.size, 3, none⟩ = some (.string r.pf) := (FA.out.on HB.out).cell 3
          have HX0 : Hid (Below w.heap.size w wr) := bt HBa.out HB.out
          obtain ⟨b, off, rfl, hbw, hc⟩ := (HVa.out.below HB.out).full' hpos
          by_cases hlt : k < r.vb.length
          · have c0 := hc k hlt
            cases hi : inB 1 5 r.vb[k] with
            | false =>
              have HR : Hid (ruleB r = false) := by unfold Hid ruleB; rw [vbs_no hlt (vAt_in hlt hi)]; rfl
              cases k with
              | zero =>
                have c0 : wr.cell? ⟨b, off, none⟩ = some (.int .i64 r.vb[0]) := by simpa using c0
                go_wp2
                go_quiet ((go_at_call 27; exact (in_any _ _ _ _).mono fun _ _ h => ⟨h.1, _, h.2⟩))
                go_wp2
                go_ret
                exact ⟨ret_bool HR.out.symm, below_drewN HX0.out _⟩
              | succ j =>
                go_wp2
                go_quiet ((go_at_call 27; exact (in_any _ _ _ _).mono fun _ _ h => ⟨h.1, _, h.2⟩))
                go_wp2
                go_ret
                exact ⟨ret_bool HR.out.symm, below_drewN HX0.out _⟩
            | true =>
              cases k with
              | zero =>
                have c0 : wr.cell? ⟨b, off, none⟩ = some (.int .i64 r.vb[0]) := by simpa using c0
                have HX : Hid (vAt r.vb 0 = true) := by unfold Hid; rw [vAt_zero hlt]; exact hi
                go_wp2
                go_quiet ((go_at_call 27; exact (in_any _ _ _ _).mono fun _ _ h => ⟨h.1, _, h.2⟩))
                go_wp2
                go_roundw
                case rel => exact ⟨1, by go_num, by omega, below_drewN HB.out _, v_one HX.out⟩
                case measure => simp [intOf]; omega
              | succ j =>
                have cj := hc j (by omega)
                have hjw : IntKind.i64.wrap (j : Int) = j := by rw [IntKind.wrap_i64]; omega
                have hjl : j < r.vb.length := by omega
                have hdl : decide ((j : Int) + 1 < (r.vb.length : Int)) = true := by simp; omega
                have cj3 : ∀ n, (wr.drewN n).cell? ⟨b, off + j, none⟩ = some (.int .i64 r.vb[j]) := fun n => cj
                have c03 : ∀ n, (wr.drewN n).cell? ⟨b, off + (j + 1), none⟩ = some (.int .i64 r.vb[j + 1]) := fun n => c0
                by_cases hls : r.vb[j] < r.vb[j + 1]
                · have HX : Hid (vAt r.vb (j + 1) = true) := by unfold Hid; rw [vAt_succ hlt, hi, decide_eq_true hls]; rfl
                  go_wp2
                  go_quiet ((go_at_call 27; exact (in_any _ _ _ _).mono fun _ _ h => ⟨h.1, _, h.2⟩))
                  go_wp2
                  go_roundw
                  case rel => exact ⟨j + 2, by go_num, by omega, below_drewN HB.out _, fun i hi => by
                                by_cases e : i = j + 1
                                · subst e; exact HX.out
                                · exact HA.out i (by omega)⟩
                  case measure => simp [intOf]; omega
                · have HR : Hid (ruleB r = false) := by unfold Hid ruleB; rw [vbs_no hlt (by rw [vAt_succ hlt, decide_eq_false hls]; simp)]; rfl
                  go_wp2
                  go_quiet ((go_at_call 27; exact (in_any _ _ _ _).mono fun _ _ h => ⟨h.1, _, h.2⟩))
                  go_wp2
                  go_ret
                  exact ⟨ret_bool HR.out.symm, below_drewN HX0.out _⟩
          · have HR : Hid (ruleB r = allB nameByte r.pf) := by
              unfold Hid ruleB
              rw [vbs_yes (by omega) HA.out, decide_eq_true HPOS.out, HKD.out, HTM.out, decide_eq_true h16]; rfl
            go_wp2
            go_loop [4] (fun i => ∃ q : Nat, q ≤ r.pf.size ∧ i = .int .i64 q ∧ (r.pf.data.toList.take q).all nameByte = true) (fun i => r.pf.size - (intOf i).toNat)
            case atStart => exact ⟨0, Nat.zero_le _, rfl, rfl⟩
            case round =>
              obtain ⟨q, hq, rfl, hallq⟩ := hrel
              have HAQ := hide hallq
              clear hallq
              by_cases hltq : q < r.pf.size
              · by_cases hn : nameByte r.pf[q] = true
                · go_wp2_with (go_at_call 159; refine (byte_any _ _).mono ?_; rintro e w' ⟨rfl, rfl⟩)
                  go_round
                  case rel => exact ⟨q + 1, by omega, by go_num, all_step HAQ.out hltq hn⟩
                  case measure => simp [intOf]; omega
                · have hn' : nameByte r.pf[q] = false := by simpa using hn
                  go_wp2_with (go_at_call 159; refine (byte_any _ _).mono ?_; rintro e w' ⟨rfl, rfl⟩)
                  go_ret
                  exact ⟨ret_bool (by rw [HR.out, all_stop hltq hn']), HX0.out⟩
              · go_wp2
                go_ret
                exact ⟨ret_bool (by rw [HR.out, all_end HAQ.out (by omega)]), HX0.out⟩
  | false =>
    have HKE : Hid (emptyOrName r.kd = nameB r.kd) := by unfold Hid emptyOrName; rw [h1]; rfl
    go_enter Tryz.func94, Tryz.ntmps94
    go_wp2_with fail
    refine (nameOk_any r.kd _ HZ.out.s1).mono ?_
    rintro e w1 ⟨rfl, rfl⟩
    cases h2 : nameB r.kd with
    | false =>
      have HR : Hid (ruleB r = false) := by unfold Hid ruleB; rw [HKE.out, h2]; simp
      go_wp2
      go_ret
      exact ⟨ret_bool HR.out.symm, one_al _ _⟩
    | true =>
      have HKD : Hid (emptyOrName r.kd = true) := by unfold Hid; rw [HKE.out, h2]
      cases h3 : r.tm.toList.isEmpty with
      | true =>
        have HTM : Hid (emptyOrName r.tm = true) := by unfold Hid emptyOrName; rw [h3]; rfl
        go_wp2
        try simp only [hbl]
        try simp only [h2]
        try simp only [h4]
        generalize hWa : w.alloc _ = Wa
        have HBa : Hid (Below w.heap.size w Wa) := by rw [← hWa]; exact one_al _ _
        have FA : Hid (Box Wa w.heap.size #[.slice a r.vb.length cap, .string r.kd, .string r.tm, .string r.pf]) := by rw [← hWa]; exact Box.new _ _ _ _ rfl
        clear hWa
        have HVa := hide (HV.out.below HBa.out)
        go_loopw [3] (fun i wr => ∃ k : Nat, i = .int .i64 k ∧ k ≤ r.vb.length ∧ Below Wa.heap.size Wa wr ∧ ∀ i, i < k → vAt r.vb i = true) (fun i _ => r.vb.length - (intOf i).toNat)
        case atStart => exact ⟨0, rfl, by omega, Below.refl _ _, fun i h => by omega⟩
        case round =>
          obtain ⟨k, rfl, hk, hb, hall⟩ := hrel
          have HA := hide hall
          have HB := hide hb
          clear hall hb
          have g0 : wr.cell? ⟨w.heap.size, 0, none⟩ = some (.slice a r.vb.length cap) := (FA.out.on HB.out).cell 0
          have g3 : wr.cell? ⟨w.heap.size, 3, none⟩ = some (.string r.pf) := (FA.out.on HB.out).cell 3
          have HX0 : Hid (Below w.heap.size w wr) := bt HBa.out HB.out
          obtain ⟨b, off, rfl, hbw, hc⟩ := (HVa.out.below HB.out).full' hpos
          by_cases hlt : k < r.vb.length
          · have c0 := hc k hlt
            cases hi : inB 1 5 r.vb[k] with
            | false =>
              have HR : Hid (ruleB r = false) := by unfold Hid ruleB; rw [vbs_no hlt (vAt_in hlt hi)]; rfl
              cases k with
              | zero =>
                have c0 : wr.cell? ⟨b, off, none⟩ = some (.int .i64 r.vb[0]) := by simpa using c0
                go_wp2
                go_quiet ((go_at_call 27; exact (in_any _ _ _ _).mono fun _ _ h => ⟨h.1, _, h.2⟩))
                go_wp2
                go_ret
                exact ⟨ret_bool HR.out.symm, below_drewN HX0.out _⟩
              | succ j =>
                go_wp2
                go_quiet ((go_at_call 27; exact (in_any _ _ _ _).mono fun _ _ h => ⟨h.1, _, h.2⟩))
                go_wp2
                go_ret
                exact ⟨ret_bool HR.out.symm, below_drewN HX0.out _⟩
            | true =>
              cases k with
              | zero =>
                have c0 : wr.cell? ⟨b, off, none⟩ = some (.int .i64 r.vb[0]) := by simpa using c0
                have HX : Hid (vAt r.vb 0 = true) := by unfold Hid; rw [vAt_zero hlt]; exact hi
                go_wp2
                go_quiet ((go_at_call 27; exact (in_any _ _ _ _).mono fun _ _ h => ⟨h.1, _, h.2⟩))
                go_wp2
                go_roundw
                case rel => exact ⟨1, by go_num, by omega, below_drewN HB.out _, v_one HX.out⟩
                case measure => simp [intOf]; omega
              | succ j =>
                have cj := hc j (by omega)
                have hjw : IntKind.i64.wrap (j : Int) = j := by rw [IntKind.wrap_i64]; omega
                have hjl : j < r.vb.length := by omega
                have hdl : decide ((j : Int) + 1 < (r.vb.length : Int)) = true := by simp; omega
                have cj3 : ∀ n, (wr.drewN n).cell? ⟨b, off + j, none⟩ = some (.int .i64 r.vb[j]) := fun n => cj
                have c03 : ∀ n, (wr.drewN n).cell? ⟨b, off + (j + 1), none⟩ = some (.int .i64 r.vb[j + 1]) := fun n => c0
                by_cases hls : r.vb[j] < r.vb[j + 1]
                · have HX : Hid (vAt r.vb (j + 1) = true) := by unfold Hid; rw [vAt_succ hlt, hi, decide_eq_true hls]; rfl
                  go_wp2
                  go_quiet ((go_at_call 27; exact (in_any _ _ _ _).mono fun _ _ h => ⟨h.1, _, h.2⟩))
                  go_wp2
                  go_roundw
                  case rel => exact ⟨j + 2, by go_num, by omega, below_drewN HB.out _, fun i hi => by
                                by_cases e : i = j + 1
                                · subst e; exact HX.out
                                · exact HA.out i (by omega)⟩
                  case measure => simp [intOf]; omega
                · have HR : Hid (ruleB r = false) := by unfold Hid ruleB; rw [vbs_no hlt (by rw [vAt_succ hlt, decide_eq_false hls]; simp)]; rfl
                  go_wp2
                  go_quiet ((go_at_call 27; exact (in_any _ _ _ _).mono fun _ _ h => ⟨h.1, _, h.2⟩))
                  go_wp2
                  go_ret
                  exact ⟨ret_bool HR.out.symm, below_drewN HX0.out _⟩
          · have HR : Hid (ruleB r = allB nameByte r.pf) := by
              unfold Hid ruleB
              rw [vbs_yes (by omega) HA.out, decide_eq_true HPOS.out, HKD.out, HTM.out, decide_eq_true h16]; rfl
            go_wp2
            go_loop [4] (fun i => ∃ q : Nat, q ≤ r.pf.size ∧ i = .int .i64 q ∧ (r.pf.data.toList.take q).all nameByte = true) (fun i => r.pf.size - (intOf i).toNat)
            case atStart => exact ⟨0, Nat.zero_le _, rfl, rfl⟩
            case round =>
              obtain ⟨q, hq, rfl, hallq⟩ := hrel
              have HAQ := hide hallq
              clear hallq
              by_cases hltq : q < r.pf.size
              · by_cases hn : nameByte r.pf[q] = true
                · go_wp2_with (go_at_call 159; refine (byte_any _ _).mono ?_; rintro e w' ⟨rfl, rfl⟩)
                  go_round
                  case rel => exact ⟨q + 1, by omega, by go_num, all_step HAQ.out hltq hn⟩
                  case measure => simp [intOf]; omega
                · have hn' : nameByte r.pf[q] = false := by simpa using hn
                  go_wp2_with (go_at_call 159; refine (byte_any _ _).mono ?_; rintro e w' ⟨rfl, rfl⟩)
                  go_ret
                  exact ⟨ret_bool (by rw [HR.out, all_stop hltq hn']), HX0.out⟩
              · go_wp2
                go_ret
                exact ⟨ret_bool (by rw [HR.out, all_end HAQ.out (by omega)]), HX0.out⟩
      | false =>
        have HTE : Hid (emptyOrName r.tm = nameB r.tm) := by unfold Hid emptyOrName; rw [h3]; rfl
        go_wp2_with fail
        refine (nameOk_any r.tm _ HZ.out.s2).mono ?_
        rintro e w2 ⟨rfl, rfl⟩
        cases h4 : nameB r.tm with
        | false =>
          have HR : Hid (ruleB r = false) := by unfold Hid ruleB; rw [HTE.out, h4]; simp
          go_wp2
          go_ret
          exact ⟨ret_bool HR.out.symm, one_al _ _⟩
        | true =>
          have HTM : Hid (emptyOrName r.tm = true) := by unfold Hid; rw [HTE.out, h4]
          go_wp2
          try simp only [hbl]
          try simp only [h2]
          try simp only [h4]
          generalize hWa : w.alloc _ = Wa
          have HBa : Hid (Below w.heap.size w Wa) := by rw [← hWa]; exact one_al _ _
          have FA : Hid (Box Wa w.heap.size #[.slice a r.vb.length cap, .string r.kd, .string r.tm, .string r.pf]) := by rw [← hWa]; exact Box.new _ _ _ _ rfl
          clear hWa
          have HVa := hide (HV.out.below HBa.out)
          go_loopw [3] (fun i wr => ∃ k : Nat, i = .int .i64 k ∧ k ≤ r.vb.length ∧ Below Wa.heap.size Wa wr ∧ ∀ i, i < k → vAt r.vb i = true) (fun i _ => r.vb.length - (intOf i).toNat)
          case atStart => exact ⟨0, rfl, by omega, Below.refl _ _, fun i h => by omega⟩
          case round =>
            obtain ⟨k, rfl, hk, hb, hall⟩ := hrel
            have HA := hide hall
            have HB := hide hb
            clear hall hb
            have g0 : wr.cell? ⟨w.heap.size, 0, none⟩ = some (.slice a r.vb.length cap) := (FA.out.on HB.out).cell 0
            have g3 : wr.cell? ⟨w.heap.size, 3, none⟩ = some (.string r.pf) := (FA.out.on HB.out).cell 3
            have HX0 : Hid (Below w.heap.size w wr) := bt HBa.out HB.out
            obtain ⟨b, off, rfl, hbw, hc⟩ := (HVa.out.below HB.out).full' hpos
            by_cases hlt : k < r.vb.length
            · have c0 := hc k hlt
              cases hi : inB 1 5 r.vb[k] with
              | false =>
                have HR : Hid (ruleB r = false) := by unfold Hid ruleB; rw [vbs_no hlt (vAt_in hlt hi)]; rfl
                cases k with
                | zero =>
                  have c0 : wr.cell? ⟨b, off, none⟩ = some (.int .i64 r.vb[0]) := by simpa using c0
                  go_wp2
                  go_quiet ((go_at_call 27; exact (in_any _ _ _ _).mono fun _ _ h => ⟨h.1, _, h.2⟩))
                  go_wp2
                  go_ret
                  exact ⟨ret_bool HR.out.symm, below_drewN HX0.out _⟩
                | succ j =>
                  go_wp2
                  go_quiet ((go_at_call 27; exact (in_any _ _ _ _).mono fun _ _ h => ⟨h.1, _, h.2⟩))
                  go_wp2
                  go_ret
                  exact ⟨ret_bool HR.out.symm, below_drewN HX0.out _⟩
              | true =>
                cases k with
                | zero =>
                  have c0 : wr.cell? ⟨b, off, none⟩ = some (.int .i64 r.vb[0]) := by simpa using c0
                  have HX : Hid (vAt r.vb 0 = true) := by unfold Hid; rw [vAt_zero hlt]; exact hi
                  go_wp2
                  go_quiet ((go_at_call 27; exact (in_any _ _ _ _).mono fun _ _ h => ⟨h.1, _, h.2⟩))
                  go_wp2
                  go_roundw
                  case rel => exact ⟨1, by go_num, by omega, below_drewN HB.out _, v_one HX.out⟩
                  case measure => simp [intOf]; omega
                | succ j =>
                  have cj := hc j (by omega)
                  have hjw : IntKind.i64.wrap (j : Int) = j := by rw [IntKind.wrap_i64]; omega
                  have hjl : j < r.vb.length := by omega
                  have hdl : decide ((j : Int) + 1 < (r.vb.length : Int)) = true := by simp; omega
                  have cj3 : ∀ n, (wr.drewN n).cell? ⟨b, off + j, none⟩ = some (.int .i64 r.vb[j]) := fun n => cj
                  have c03 : ∀ n, (wr.drewN n).cell? ⟨b, off + (j + 1), none⟩ = some (.int .i64 r.vb[j + 1]) := fun n => c0
                  by_cases hls : r.vb[j] < r.vb[j + 1]
                  · have HX : Hid (vAt r.vb (j + 1) = true) := by unfold Hid; rw [vAt_succ hlt, hi, decide_eq_true hls]; rfl
                    go_wp2
                    go_quiet ((go_at_call 27; exact (in_any _ _ _ _).mono fun _ _ h => ⟨h.1, _, h.2⟩))
                    go_wp2
                    go_roundw
                    case rel => exact ⟨j + 2, by go_num, by omega, below_drewN HB.out _, fun i hi => by
                                  by_cases e : i = j + 1
                                  · subst e; exact HX.out
                                  · exact HA.out i (by omega)⟩
                    case measure => simp [intOf]; omega
                  · have HR : Hid (ruleB r = false) := by unfold Hid ruleB; rw [vbs_no hlt (by rw [vAt_succ hlt, decide_eq_false hls]; simp)]; rfl
                    go_wp2
                    go_quiet ((go_at_call 27; exact (in_any _ _ _ _).mono fun _ _ h => ⟨h.1, _, h.2⟩))
                    go_wp2
                    go_ret
                    exact ⟨ret_bool HR.out.symm, below_drewN HX0.out _⟩
            · have HR : Hid (ruleB r = allB nameByte r.pf) := by
                unfold Hid ruleB
                rw [vbs_yes (by omega) HA.out, decide_eq_true HPOS.out, HKD.out, HTM.out, decide_eq_true h16]; rfl
              go_wp2
              go_loop [4] (fun i => ∃ q : Nat, q ≤ r.pf.size ∧ i = .int .i64 q ∧ (r.pf.data.toList.take q).all nameByte = true) (fun i => r.pf.size - (intOf i).toNat)
              case atStart => exact ⟨0, Nat.zero_le _, rfl, rfl⟩
              case round =>
                obtain ⟨q, hq, rfl, hallq⟩ := hrel
                have HAQ := hide hallq
                clear hallq
                by_cases hltq : q < r.pf.size
                · by_cases hn : nameByte r.pf[q] = true
                  · go_wp2_with (go_at_call 159; refine (byte_any _ _).mono ?_; rintro e w' ⟨rfl, rfl⟩)
                    go_round
                    case rel => exact ⟨q + 1, by omega, by go_num, all_step HAQ.out hltq hn⟩
                    case measure => simp [intOf]; omega
                  · have hn' : nameByte r.pf[q] = false := by simpa using hn
                    go_wp2_with (go_at_call 159; refine (byte_any _ _).mono ?_; rintro e w' ⟨rfl, rfl⟩)
                    go_ret
                    exact ⟨ret_bool (by rw [HR.out, all_stop hltq hn']), HX0.out⟩
                · go_wp2
                  go_ret
                  exact ⟨ret_bool (by rw [HR.out, all_end HAQ.out (by omega)]), HX0.out⟩
end Go.Proofs.YtdeammfdkaomlaaGreat
