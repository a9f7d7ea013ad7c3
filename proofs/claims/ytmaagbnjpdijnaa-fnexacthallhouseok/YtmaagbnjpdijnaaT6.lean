import Derived.Test.YtmaagbnjpdijnaaT5
namespace Go.Proofs.Ytmaagbnjpdijnaa
open Go.RowKit Go.Deep

theorem v_one {L : List Int} (h : vAt L 0 = true) : ∀ i, i < 1 → vAt L i = true := fun i hi => by
  have e : i = 0 := by omega
  subst e
  exact h

set_option maxHeartbeats 1000000 in
theorem verbsOk_any (lo : Nat) (v : Value) (L : List Int) (w : World) (hv : IntsIn lo w v L) :
    Calls Try.prog 81 #[v] w fun e w' => e = .returned (.bool (vbsB L)) ∧ w' = w := by
  by_cases hL : L = []
  · subst hL
    obtain ⟨a, cap, rfl⟩ := hv.form
    clear hv
    go_enter Try.func81, Try.ntmps81
    go_wp2
    go_loop [7] (fun i => i = .int .i64 0) (fun _ => 0)
    case atStart => rfl
    case round =>
      subst hrel
      go_wp2
      go_ret
      exact ⟨rfl, rfl⟩
  · obtain ⟨b, off, cap, rfl, hm, hbw, hc⟩ := hv.full hL
    clear hv
    unfold maxLen at hm
    go_enter Try.func81, Try.ntmps81
    go_wp2
    go_loop [7] (fun i => ∃ k : Nat, i = .int .i64 k ∧ k ≤ L.length ∧ ∀ i, i < k → vAt L i = true) (fun i => L.length - (intOf i).toNat)
    case atStart => exact ⟨0, rfl, by omega, fun i h => by omega⟩
    case round =>
      obtain ⟨k, rfl, hk, hall⟩ := hrel
      have HA := hide hall
      clear hall
      by_cases hlt : k < L.length
      · have c0 := hc k hlt
        by_cases h1 : L[k] < 1
        · have HR : Hid (vbsB L = false) := vbs_no hlt (vAt_in hlt (by unfold inB; simp; omega))
          go_wp2
          go_ret
          exact ⟨ret_bool HR.out.symm, rfl⟩
        by_cases h5 : 5 < L[k]
        · have HR : Hid (vbsB L = false) := vbs_no hlt (vAt_in hlt (by unfold inB; simp; omega))
          go_wp2
          go_ret
          exact ⟨ret_bool HR.out.symm, rfl⟩
        have HI : Hid (inB 1 5 L[k] = true) := by unfold Hid inB; simp; omega
        cases k with
        | zero =>
          have c0 : w.cell? ⟨b, off, none⟩ = some (.int .i64 L[0]) := by simpa using c0
          have HX : Hid (vAt L 0 = true) := by unfold Hid; rw [vAt_zero hlt]; exact HI.out
          go_wp2
          go_round
          case rel => exact ⟨1, by go_num, by omega, v_one HX.out⟩
          case measure => simp [intOf]; omega
        | succ j =>
          have cj := hc j (by omega)
          by_cases hls : L[j] < L[j + 1]
          · have HX : Hid (vAt L (j + 1) = true) := by unfold Hid; rw [vAt_succ hlt, HI.out, decide_eq_true hls]; rfl
            go_wp2
            go_round
            case rel => exact ⟨j + 2, by go_num, by omega, fun i hi => by
                          by_cases e : i = j + 1
                          · subst e; exact HX.out
                          · exact HA.out i (by omega)⟩
            case measure => simp [intOf]; omega
          · have HR : Hid (vbsB L = false) := vbs_no hlt (by rw [vAt_succ hlt, decide_eq_false hls]; simp)
            go_wp2
            go_ret
            exact ⟨ret_bool HR.out.symm, rfl⟩
      · have HR : Hid (vbsB L = decide (0 < L.length)) := vbs_yes (by omega) HA.out
        have hpos : 0 < L.length := List.length_pos_iff.2 hL
        have HT : Hid (decide (0 < L.length) = true) := by unfold Hid; simpa using hpos
        go_wp2
        go_ret
        exact ⟨ret_bool (by rw [HR.out, HT.out]), rfl⟩

set_option maxHeartbeats 2000000 in
theorem implRule_any (lo : Nat) (r : Ru) (vv : Value) (w : World) (hv : IntsIn lo w vv r.vb) (hz : RuSize r) :
    Calls Try.prog 48 #[.agg #[vv, .string r.kd, .string r.tm, .string r.pf]] w fun e w' => e = .returned (.bool (ruleB r)) ∧ Below w.heap.size w w' := by
  have HV := hide hv
  have HZ := hide hz
  obtain ⟨a, cap, rfl⟩ := hv.form
  clear hv hz
  have hsz := HZ.out.s3
  unfold maxLen at hsz
  go_enter Try.func48, Try.ntmps48
  go_wp2_with fail
  generalize hWa : w.alloc _ = Wa
  have HBa : Hid (Below w.heap.size w Wa) := by rw [← hWa]; exact one_al _ _
  have FA : Hid (Box Wa w.heap.size #[.slice a r.vb.length cap, .string r.kd, .string r.tm, .string r.pf]) := by rw [← hWa]; exact Box.new _ _ _ _ rfl
  clear hWa
  refine (verbsOk_any lo _ r.vb _ (HV.out.below HBa.out)).mono ?_
  rintro e w1 ⟨rfl, rfl⟩
  have a1 : w1.cell? ⟨w.heap.size, 1, none⟩ = some (.string r.kd) := FA.out.cell 1
  have a2 : w1.cell? ⟨w.heap.size, 2, none⟩ = some (.string r.tm) := FA.out.cell 2
  have a3 : w1.cell? ⟨w.heap.size, 3, none⟩ = some (.string r.pf) := FA.out.cell 3
  cases q1 : vbsB r.vb with
  | false =>
    have HR : Hid (ruleB r = false) := by unfold Hid ruleB; rw [q1]; rfl
    go_wp2
    go_ret
    exact ⟨ret_bool HR.out.symm, HBa.out⟩
  | true =>
    go_wp2_with fail
    refine (emptyOrName_any r.kd _ HZ.out.s1).mono ?_
    rintro e w2 ⟨rfl, rfl⟩
    cases q2 : emptyOrName r.kd with
    | false =>
      have HR : Hid (ruleB r = false) := by unfold Hid ruleB; rw [q1, q2]; rfl
      go_wp2
      go_ret
      exact ⟨ret_bool HR.out.symm, HBa.out⟩
    | true =>
      go_wp2_with fail
      refine (emptyOrName_any r.tm _ HZ.out.s2).mono ?_
      rintro e w3 ⟨rfl, rfl⟩
      cases q3 : emptyOrName r.tm with
      | false =>
        have HR : Hid (ruleB r = false) := by unfold Hid ruleB; rw [q1, q2, q3]; rfl
        go_wp2
        go_ret
        exact ⟨ret_bool HR.out.symm, HBa.out⟩
      | true =>
        by_cases q4 : (r.pf.size : Int) ≤ 16
        · have HR : Hid (ruleB r = allB nameByte r.pf) := by unfold Hid ruleB; rw [q1, q2, q3, decide_eq_true q4]; rfl
          go_wp2_with fail
          refine (nameBytes_any r.pf _ HZ.out.s3).mono ?_
          rintro e w4 ⟨rfl, rfl⟩
          generalize allB nameByte r.pf = Q at *
          go_wp2
          go_ret
          exact ⟨ret_bool HR.out.symm, HBa.out⟩
        · have HR : Hid (ruleB r = false) := by unfold Hid ruleB; rw [decide_eq_false q4]; simp
          go_wp2
          go_ret
          exact ⟨ret_bool HR.out.symm, HBa.out⟩
end Go.Proofs.Ytmaagbnjpdijnaa

