import Derived.Test.YtobijdenhbpdfaaDoorT12
namespace Go.Proofs.YtobijdenhbpdfaaDoor
open Go.RowKit Go.Deep

def allokB (Ts : List Tm) (Rs : List Ru) (r : Ru) : Bool := teamsB Ts && ruleB r && Rs.all ruleB
def missP (Ts : List Tm) (Rs : List Ru) (r : Ru) (v : Int) : Bool := hasV r.vb v && !(Rs.any fun q => givesP Ts q r.kd r.tm r.pf v)
theorem all_no {Rs : List Ru} {k : Nat} (hk : k < Rs.length) (h : ruleB Rs[k] = false) : Rs.all ruleB = false := by
  rw [List.all_eq_false]; exact ⟨Rs[k], List.getElem_mem hk, by simp [h]⟩
theorem all_yes {Rs : List Ru} (h : ∀ i (hi : i < Rs.length), ruleB Rs[i] = true) : Rs.all ruleB = true := by
  rw [List.all_eq_true]
  intro x hx
  obtain ⟨i, hi, rfl⟩ := List.getElem_of_mem hx
  exact h i hi
theorem miss_next {Ts : List Tm} {Rs : List Ru} {r : Ru} {k : Nat} (h : k < Rs.length) : bits .andNot .u8 (num (missP Ts (Rs.take k) r)) (num (givesP Ts Rs[k] r.kd r.tm r.pf)) = num (missP Ts (Rs.take (k + 1)) r) := by
  rw [num_andNot]
  refine num_congr fun v _ _ => ?_
  unfold missP
  rw [any_take h, Bool.not_or, Bool.and_assoc]
theorem miss_nil (Ts : List Tm) (r : Ru) : num (missP Ts [] r) = num (hasV r.vb) := num_congr fun v _ _ => by unfold missP; simp
theorem name_some {s : ByteArray} (h : nameB s = true) : s.toList.isEmpty = false := empty_no (by
  unfold nameB at h
  rw [Bool.and_eq_true, inB_eq] at h
  have := h.1
  simp at this
  omega)
theorem team_name {Ts : List Tm} (h : teamsB Ts = true) {i : Nat} (hi : i < Ts.length) : nameB Ts[i].nm = true := by
  unfold teamsB at h
  rw [Bool.and_eq_true] at h
  have := range_is hi h.2
  rw [teamAt_eq hi] at this
  simp only [Bool.and_eq_true] at this
  exact this.1.1.1
theorem ov_empty {Ts : List Tm} (h : teamsB Ts = true) {s : ByteArray} (hs : s.toList.isEmpty = true) : ovB Ts s = ⟨#[]⟩ := by
  refine ovB_no fun i hi => ?_
  cases he : (Ts[i].nm.toList == s.toList) with
  | false => rfl
  | true =>
    have := name_some (team_name h hi)
    rw [beq_iff_eq] at he
    rw [he, hs] at this
    cases this
theorem under_empty {Ts : List Tm} (h : teamsB Ts = true) {a b : ByteArray} (ha : a.toList.isEmpty = true) (hb : b.toList.isEmpty = false) : underB Ts a b = false := by
  unfold underB
  have e1 : (a.toList == b.toList) = false := by
    cases he : (a.toList == b.toList) with
    | false => rfl
    | true => rw [beq_iff_eq] at he; rw [he, hb] at ha; cases ha
  rw [e1]
  show underN Ts b 4 a = false
  unfold underN
  rw [ov_empty h ha, if_pos empty_nil]
theorem cover_eq {Ts : List Tm} (h : teamsB Ts = true) (r q : Ru) (v : Int) : coverS Ts r q v = givesP Ts q r.kd r.tm r.pf v := by
  unfold coverS givesP matchB
  cases h3 : q.tm.toList.isEmpty with
  | true => cases hasV q.vb v <;> simp
  | false =>
    cases h5 : r.tm.toList.isEmpty with
    | true => rw [under_empty h h5 h3]; simp
    | false => cases hasV q.vb v <;> simp
theorem covered_eq {Ts : List Tm} (h : teamsB Ts = true) (Rs : List Ru) (r : Ru) (v : Int) : coveredS Ts Rs r v = Rs.any fun q => givesP Ts q r.kd r.tm r.pf v := by
  unfold coveredS
  congr 1
  funext q
  exact cover_eq h r q v
theorem num_zero (p : Int → Bool) : (num p == 0) = true ↔ ∀ v, 1 ≤ v → v ≤ 5 → p v = false := by
  unfold num
  rw [numB_zero]
  constructor
  · intro h v h1 h2
    simp only [Bool.and_eq_true, Bool.not_eq_true'] at h
    have hc : v = 1 ∨ v = 2 ∨ v = 3 ∨ v = 4 ∨ v = 5 := by omega
    rcases hc with rfl | rfl | rfl | rfl | rfl
    · exact h.1.1.1.1
    · exact h.1.1.1.2
    · exact h.1.1.2
    · exact h.1.2
    · exact h.2
  · intro h
    rw [h 1 (by omega) (by omega), h 2 (by omega) (by omega), h 3 (by omega) (by omega), h 4 (by omega) (by omega), h 5 (by omega) (by omega)]
    rfl
theorem lack_zero {Ts : List Tm} {Rs : List Ru} {r : Ru} (ht : teamsB Ts = true) (hr : ruleB r = true) : (lackV Ts Rs r == 0) = (num (missP Ts Rs r) == 0) := by
  rw [Bool.eq_iff_iff, num_zero]
  constructor
  · intro h v _ _
    cases hm : missP Ts Rs r v with
    | false => rfl
    | true =>
      exfalso
      unfold missP at hm
      rw [Bool.and_eq_true, ← covered_eq ht] at hm
      have hf : ∃ x, r.vb.find? (fun v => !coveredS Ts Rs r v) = some x := by
        cases hq : r.vb.find? (fun v => !coveredS Ts Rs r v) with
        | some x => exact ⟨x, rfl⟩
        | none => exact absurd hm.2 (List.find?_eq_none.1 hq v (hasV_mem.1 hm.1))
      obtain ⟨x, hx⟩ := hf
      have hl : lackV Ts Rs r = x := by unfold lackV; rw [hx]; rfl
      have hmem := List.mem_of_find?_eq_some hx
      have := vbs_in (rule_vbs hr) (hasV_mem.2 hmem)
      rw [hl, beq_iff_eq] at h
      omega
  · intro h
    have : r.vb.find? (fun v => !coveredS Ts Rs r v) = none := by
      rw [List.find?_eq_none]
      intro x hx hc
      have hb := vbs_in (rule_vbs hr) (hasV_mem.2 hx)
      have := h x hb.1 hb.2
      unfold missP at this
      rw [hasV_mem.2 hx, ← covered_eq ht] at this
      rw [hc] at this
      cases this
    unfold lackV
    rw [this]
    rfl
def coversB (Ts : List Tm) (Rs : List Ru) (r : Ru) : Bool := allokB Ts Rs r && (num (missP Ts Rs r) == 0)

set_option maxRecDepth 20000 in
set_option maxHeartbeats 2000000 in
theorem specAllOk_any (lo lr ls : Nat) (tv sv vv : Value) (Ts : List Tm) (Rs : List Ru) (r : Ru) (w : World) (hT : TmsAt lo w tv Ts) (hR : RusAt lr w sv Rs) (hv : IntsIn ls w vv r.vb) (hz : RuSize r) :
    Calls Tryd.prog 23 #[tv, sv, .agg #[vv, .string r.kd, .string r.tm, .string r.pf]] w fun e w' => e = .returned (.bool (allokB Ts Rs r)) ∧ Below w.heap.size w w' := by
  have HT := hide hT
  have HR := hide hR
  have HV := hide hv
  have HZ := hide hz
  have hmr := hR.max
  unfold maxLen at hmr
  obtain ⟨ta, tcap, rfl⟩ := hT.form
  obtain ⟨sa, scap, rfl⟩ := hR.form
  obtain ⟨a, cap, rfl⟩ := hv.form
  clear hT hR hv hz
  go_enter Tryd.func23, Tryd.ntmps23
  go_wp2_with fail
  generalize hWa : w.alloc _ = Wa
  have HBa : Hid (Below w.heap.size w Wa) := by rw [← hWa]; exact one_al _ _
  have FA : Hid (Box Wa w.heap.size #[.slice a r.vb.length cap, .string r.kd, .string r.tm, .string r.pf]) := by rw [← hWa]; exact Box.new _ _ _ _ rfl
  clear hWa
  refine (specTeams_any lo _ Ts _ (HT.out.below HBa.out)).mono ?_
  rintro e w1 ⟨rfl, hb1⟩
  have HB1 : Hid (Below w.heap.size w w1) := bt HBa.out hb1
  replace FA := hide (FA.out.on hb1)
  clear hb1 HBa
  cases q1 : teamsB Ts with
  | false =>
    have HX : Hid (allokB Ts Rs r = false) := by unfold Hid allokB; rw [q1]; rfl
    go_wp2
    go_ret
    exact ⟨ret_bool HX.out.symm, HB1.out⟩
  | true =>
    have g0 := FA.out.cell
    have gl := FA.out.lt
    go_wp2_with fail
    clear g0 gl
    refine (specRule_any ls r _ _ (HV.out.below HB1.out) HZ.out).mono ?_
    rintro e w2 ⟨rfl, hb2⟩
    have HB2 : Hid (Below w.heap.size w w2) := bt HB1.out hb2
    clear hb2 HB1 FA
    cases q2 : ruleB r with
    | false =>
      have HX : Hid (allokB Ts Rs r = false) := by unfold Hid allokB; rw [q1, q2]; rfl
      go_wp2
      go_ret
      exact ⟨ret_bool HX.out.symm, HB2.out⟩
    | true =>
      have HX : Hid (allokB Ts Rs r = Rs.all ruleB) := by unfold Hid allokB; rw [q1, q2]; rfl
      clear q1 q2
      go_wp2
      go_loopw [7] (fun i wr => ∃ k : Nat, i = .int .i64 k ∧ k ≤ Rs.length ∧ Below w.heap.size w wr ∧ ∀ j (hj : j < Rs.length), j < k → ruleB Rs[j] = true) (fun i _ => Rs.length - (intOf i).toNat)
      case atStart => exact ⟨0, rfl, by omega, HB2.out, fun j _ h => by omega⟩
      case round =>
        obtain ⟨k, rfl, hk, hb, hall⟩ := hrel
        have HA := hide hall
        have HB := hide hb
        clear hall hb
        by_cases hlt : k < Rs.length
        · obtain ⟨rb, ro, rfl, hrb, hrc⟩ := HR.out.full' (by omega)
          obtain ⟨hsz, qv, hcell, hqv⟩ := hrc k hlt
          have HSZ := hide hsz
          obtain ⟨c0, c1, c2, c3⟩ := hcell.below HB.out hrb
          have HQV := hide (hqv.below HB.out)
          obtain ⟨qa, qcap, rfl⟩ := hqv.form
          clear hcell hqv hrc hsz
          go_wp2_with fail
          clear c0 c1 c2 c3
          refine (specRule_any lr _ _ _ HQV.out HSZ.out).mono ?_
          rintro e w3 ⟨rfl, hb3⟩
          have HB3 : Hid (Below w.heap.size w w3) := bt HB.out hb3
          clear hb3
          cases q3 : ruleB Rs[k] with
          | false =>
            have HY : Hid (Rs.all ruleB = false) := all_no hlt q3
            go_wp2
            go_ret
            exact ⟨ret_bool (by rw [HX.out, HY.out]), HB3.out⟩
          | true =>
            go_wp2
            go_roundw
            case rel => exact ⟨k + 1, by go_num, by omega, HB3.out, fun j hj h => by
                          by_cases e : j = k
                          · subst e; exact q3
                          · exact HA.out j hj (by omega)⟩
            case measure => simp [intOf]; omega
        · have HY : Hid (Rs.all ruleB = true) := all_yes fun j hj => HA.out j hj (by omega)
          go_wp2
          go_ret
          exact ⟨ret_bool (by rw [HX.out, HY.out]), HB.out⟩

set_option maxRecDepth 20000 in
set_option maxHeartbeats 2000000 in
theorem specCovers_any (lo lr ls : Nat) (tv sv vv : Value) (Ts : List Tm) (Rs : List Ru) (r : Ru) (w : World) (hT : TmsAt lo w tv Ts) (hR : RusAt lr w sv Rs) (hv : IntsIn ls w vv r.vb) (hz : RuSize r) :
    Calls Tryd.prog 7 #[tv, sv, .agg #[vv, .string r.kd, .string r.tm, .string r.pf]] w fun e w' => e = .returned (.bool (coversB Ts Rs r)) ∧ Below w.heap.size w w' := by
  have HT := hide hT
  have HR := hide hR
  have HV := hide hv
  have HZ := hide hz
  obtain ⟨ta, tcap, rfl⟩ := hT.form
  obtain ⟨sa, scap, rfl⟩ := hR.form
  obtain ⟨a, cap, rfl⟩ := hv.form
  clear hT hR hv hz
  go_enter Tryd.func7, Tryd.ntmps7
  go_wp2_with fail
  generalize hWa : w.alloc _ = Wa
  have HBa : Hid (Below w.heap.size w Wa) := by rw [← hWa]; exact one_al _ _
  have FA : Hid (Box Wa w.heap.size #[.slice a r.vb.length cap, .string r.kd, .string r.tm, .string r.pf]) := by rw [← hWa]; exact Box.new _ _ _ _ rfl
  clear hWa
  refine (specAllOk_any lo lr ls _ _ _ Ts Rs r _ (HT.out.below HBa.out) (HR.out.below HBa.out) (HV.out.below HBa.out) HZ.out).mono ?_
  rintro e w1 ⟨rfl, hb1⟩
  have HB1 : Hid (Below w.heap.size w w1) := bt HBa.out hb1
  replace FA := hide (FA.out.on hb1)
  clear hb1 HBa
  cases q1 : allokB Ts Rs r with
  | false =>
    have HX : Hid (coversB Ts Rs r = false) := by unfold Hid coversB; rw [q1]; rfl
    go_wp2
    go_ret
    exact ⟨ret_bool HX.out.symm, HB1.out⟩
  | true =>
    have HX : Hid (coversB Ts Rs r = (lackV Ts Rs r == 0)) := by
      unfold Hid coversB
      rw [q1]
      unfold allokB at q1
      simp only [Bool.and_eq_true] at q1
      rw [lack_zero q1.1.1 q1.1.2]; rfl
    have g0 := FA.out.cell
    have gl := FA.out.lt
    go_wp2_with fail
    clear g0 gl
    refine (l4Lacks_any lo lr ls _ _ _ Ts Rs r _ (HT.out.below HB1.out) (HR.out.below HB1.out) (HV.out.below HB1.out)).mono ?_
    rintro e w2 ⟨rfl, hb2⟩
    have HB2 : Hid (Below w.heap.size w w2) := bt HB1.out hb2
    clear hb2 HB1 FA
    generalize hlv : lackV Ts Rs r = lv at *
    go_wp2
    go_ret
    exact ⟨ret_bool HX.out.symm, HB2.out⟩

set_option maxRecDepth 20000 in
set_option maxHeartbeats 2000000 in
theorem rulesOk_any (lo lr ls : Nat) (tv sv vv : Value) (Ts : List Tm) (Rs : List Ru) (r : Ru) (w : World) (hT : TmsAt lo w tv Ts) (hR : RusAt lr w sv Rs) (hv : IntsIn ls w vv r.vb) (hz : RuSize r) :
    Calls Tryd.prog 17 #[tv, sv, .agg #[vv, .string r.kd, .string r.tm, .string r.pf]] w fun e w' => e = .returned (.bool (allokB Ts Rs r)) ∧ Below w.heap.size w w' := by
  have HT := hide hT
  have HR := hide hR
  have HV := hide hv
  have HZ := hide hz
  have hmr := hR.max
  unfold maxLen at hmr
  obtain ⟨ta, tcap, rfl⟩ := hT.form
  obtain ⟨sa, scap, rfl⟩ := hR.form
  obtain ⟨a, cap, rfl⟩ := hv.form
  clear hT hR hv hz
  go_enter Tryd.func17, Tryd.ntmps17
  go_wp2
  generalize hWa : w.alloc _ = Wa
  have HBa : Hid (Below w.heap.size w Wa) := by rw [← hWa]; exact one_al _ _
  have FA : Hid (Box Wa w.heap.size #[.slice a r.vb.length cap, .string r.kd, .string r.tm, .string r.pf]) := by rw [← hWa]; exact Box.new _ _ _ _ rfl
  clear hWa
  have HRa := hide (HR.out.below HBa.out)
  go_loopw [11] (fun i wr => ∃ k : Nat, i = .int .i64 k ∧ k ≤ Rs.length ∧ Below Wa.heap.size Wa wr ∧ ∀ j (hj : j < Rs.length), j < k → ruleB Rs[j] = true) (fun i _ => Rs.length - (intOf i).toNat)
  case atStart => exact ⟨0, rfl, by omega, Below.refl _ _, fun j _ h => by omega⟩
  case round =>
    obtain ⟨k, rfl, hk, hb, hall⟩ := hrel
    have HA := hide hall
    have HB := hide hb
    clear hall hb
    by_cases hlt : k < Rs.length
    · obtain ⟨rb, ro, rfl, hrb, hrc⟩ := HRa.out.full' (by omega)
      obtain ⟨hsz, qv, hcell, hqv⟩ := hrc k hlt
      have HSZ := hide hsz
      obtain ⟨c0, c1, c2, c3⟩ := hcell.below HB.out hrb
      have HQV := hide (hqv.below HB.out)
      obtain ⟨qa, qcap, rfl⟩ := hqv.form
      clear hcell hqv hrc hsz
      go_wp2_with fail
      clear c0 c1 c2 c3
      generalize hWq : wr.alloc _ = Wq
      have HBq : Hid (Below wr.heap.size wr Wq) := by rw [← hWq]; exact one_al _ _
      clear hWq
      refine (implRule_any lr _ _ _ (HQV.out.below HBq.out) HSZ.out).mono ?_
      rintro e w3 ⟨rfl, hb3⟩
      have HB3 : Hid (Below Wa.heap.size Wa w3) := bt HB.out (bt HBq.out hb3)
      clear hb3
      cases q3 : ruleB Rs[k] with
      | false =>
        have HY : Hid (allokB Ts Rs r = false) := by unfold Hid allokB; rw [all_no hlt q3]; simp
        go_wp2
        go_ret
        exact ⟨ret_bool HY.out.symm, bt HBa.out HB3.out⟩
      | true =>
        go_wp2
        go_roundw
        case rel => exact ⟨k + 1, by go_num, by omega, HB3.out, fun j hj h => by
                      by_cases e : j = k
                      · subst e; exact q3
                      · exact HA.out j hj (by omega)⟩
        case measure => simp [intOf]; omega
    · have HY : Hid (Rs.all ruleB = true) := all_yes fun j hj => HA.out j hj (by omega)
      have FB := hide (FA.out.on HB.out)
      have HX0 : Hid (Below w.heap.size w wr) := bt HBa.out HB.out
      have g0 := FB.out.cell
      have gl := FB.out.lt
      go_wp2_with fail
      clear g0 gl
      refine (implRule_any ls r _ _ (HV.out.below HX0.out) HZ.out).mono ?_
      rintro e w4 ⟨rfl, hb4⟩
      have HB4 : Hid (Below w.heap.size w w4) := bt HX0.out hb4
      clear hb4
      cases q2 : ruleB r with
      | false =>
        have HX : Hid (allokB Ts Rs r = false) := by unfold Hid allokB; rw [q2]; simp
        go_wp2
        go_ret
        exact ⟨ret_bool HX.out.symm, HB4.out⟩
      | true =>
        have HX : Hid (allokB Ts Rs r = teamsB Ts) := by unfold Hid allokB; rw [q2, HY.out]; simp
        go_wp2_with fail
        refine (implTeams_any lo _ Ts _ (HT.out.below HB4.out)).mono ?_
        rintro e w5 ⟨rfl, hb5⟩
        have HB5 : Hid (Below w.heap.size w w5) := bt HB4.out hb5
        clear hb5
        generalize teamsB Ts = Q at *
        go_wp2
        go_ret
        exact ⟨ret_bool HX.out.symm, HB5.out⟩

set_option maxRecDepth 20000 in
set_option maxHeartbeats 4000000 in
theorem missing_any (lo lr ls : Nat) (tv sv vv : Value) (Ts : List Tm) (Rs : List Ru) (r : Ru) (w : World) (hT : TmsAt lo w tv Ts) (hR : RusAt lr w sv Rs) (hv : IntsIn ls w vv r.vb) :
    Calls Tryd.prog 18 #[tv, sv, .agg #[vv, .string r.kd, .string r.tm, .string r.pf]] w fun e w' => e = .returned (.int .u8 (num (missP Ts Rs r))) ∧ Below w.heap.size w w' := by
  have HT := hide hT
  have HR := hide hR
  have HV := hide hv
  have hmr := hR.max
  unfold maxLen at hmr
  obtain ⟨ta, tcap, rfl⟩ := hT.form
  obtain ⟨sa, scap, rfl⟩ := hR.form
  obtain ⟨a, cap, rfl⟩ := hv.form
  clear hT hR hv
  go_enter Tryd.func18, Tryd.ntmps18
  go_wp2_with fail
  generalize hWa : w.alloc _ = Wa
  have HBa : Hid (Below w.heap.size w Wa) := by rw [← hWa]; exact one_al _ _
  have FA : Hid (Box Wa w.heap.size #[.slice a r.vb.length cap, .string r.kd, .string r.tm, .string r.pf]) := by rw [← hWa]; exact Box.new _ _ _ _ rfl
  clear hWa
  have HRa := hide (HR.out.below HBa.out)
  have HTa := hide (HT.out.below HBa.out)
  refine (verbsOf_any ls _ r.vb _ (HV.out.below HBa.out)).mono ?_
  rintro e w1 ⟨rfl, rfl⟩
  have HN0 : Hid (num (hasV r.vb) = num (missP Ts (Rs.take 0) r)) := (miss_nil Ts r).symm
  rw [HN0.out]
  generalize hn0 : num (missP Ts (Rs.take 0) r) = n0
  have HN0' := hide hn0
  clear hn0
  go_wp2
  go_loopw [7, 15] (fun x i wr => ∃ k : Nat, x = .int .u8 (num (missP Ts (Rs.take k) r)) ∧ i = .int .i64 k ∧ k ≤ Rs.length ∧ Below w1.heap.size w1 wr) (fun _ i _ => Rs.length - (intOf i).toNat)
  case atStart => exact ⟨0, by rw [HN0'.out], rfl, by omega, Below.refl _ _⟩
  case round =>
    obtain ⟨k, rfl, rfl, hk, hb⟩ := hrel
    have HB := hide hb
    clear hb
    by_cases hlt : k < Rs.length
    · obtain ⟨rb, ro, rfl, hrb, hrc⟩ := HRa.out.full' (by omega)
      obtain ⟨_, qv, hcell, hqv⟩ := hrc k hlt
      obtain ⟨c0, c1, c2, c3⟩ := hcell.below HB.out hrb
      have HQV0 := hide (hqv.below HB.out)
      obtain ⟨qa, qcap, rfl⟩ := hqv.form
      clear hcell hqv hrc
      have HNX : Hid (bits .andNot .u8 (num (missP Ts (Rs.take k) r)) (num (givesP Ts Rs[k] r.kd r.tm r.pf)) = num (missP Ts (Rs.take (k + 1)) r)) := miss_next hlt
      generalize hmk : num (missP Ts (Rs.take k) r) = mk at *
      generalize hgv : num (givesP Ts Rs[k] r.kd r.tm r.pf) = gv at *
      go_wp2
      generalize hWq : wr.alloc _ = Wq
      have HBq : Hid (Below wr.heap.size wr Wq) := by rw [← hWq]; exact one_al _ _
      have FQ : Hid (Box Wq wr.heap.size #[.slice qa Rs[k].vb.length qcap, .string Rs[k].kd, .string Rs[k].tm, .string Rs[k].pf]) := by rw [← hWq]; exact Box.new _ _ _ _ rfl
      clear hWq c0 c1 c2 c3
      have HUq : Hid (Below w1.heap.size w1 Wq) := bt HB.out HBq.out
      have FAq := hide ((FA.out.on HB.out).on HBq.out)
      have HQV := hide (HQV0.out.below HBq.out)
      have HTq := hide (HTa.out.below HUq.out)
      clear HQV0 HBq
      generalize hbeta : wr.heap.size = β at *
      have xn : Nonempty (In (Cls Wq w.heap.size #[.slice a r.vb.length cap, .string r.kd, .string r.tm, .string r.pf] β #[.slice qa Rs[k].vb.length qcap, .string Rs[k].kd, .string Rs[k].tm, .string Rs[k].pf])) := ⟨⟨Wq, ⟨Below.refl _ _, FAq.out, FQ.out⟩⟩⟩
      have x2 := fun (X : In (Cls Wq w.heap.size #[.slice a r.vb.length cap, .string r.kd, .string r.tm, .string r.pf] β #[.slice qa Rs[k].vb.length qcap, .string Rs[k].kd, .string Rs[k].tm, .string Rs[k].pf])) => Cls.c1 X
      have x3 := fun (X : In (Cls Wq w.heap.size #[.slice a r.vb.length cap, .string r.kd, .string r.tm, .string r.pf] β #[.slice qa Rs[k].vb.length qcap, .string Rs[k].kd, .string Rs[k].tm, .string Rs[k].pf])) => Cls.c2 X
      have x4 := fun (X : In (Cls Wq w.heap.size #[.slice a r.vb.length cap, .string r.kd, .string r.tm, .string r.pf] β #[.slice qa Rs[k].vb.length qcap, .string Rs[k].kd, .string Rs[k].tm, .string Rs[k].pf])) => in_self X
      refine wp_region_class (Cls Wq w.heap.size #[.slice a r.vb.length cap, .string r.kd, .string r.tm, .string r.pf] β #[.slice qa Rs[k].vb.length qcap, .string Rs[k].kd, .string Rs[k].tm, .string Rs[k].pf]) (by kernel_rfl) (by kernel_rfl) ⟨(Below.refl _ _).drew, FAq.out, FQ.out⟩ ?_
      repeat (go_big_quiet_step (
        first
        | (go_at_call 35; rename_i X; exact (rightOf_any _ _ Rs[k] _ _ _ _ _ rfl rfl _).mono fun _ _ h => ⟨h.1, Cls.next X h.2⟩)
        | (go_at_call 55; rename_i X; exact (gives_any lo lr _ _ Ts Rs[k] r.kd r.tm r.pf _ (HTq.out.below X.h.on) (HQV.out.below X.h.on)).mono fun _ _ h => ⟨by rw [h.1, hgv], Cls.next X h.2⟩)))
      refine wpQuiet_nil ?_
      intro wn hw'
      obtain ⟨X, hX⟩ := hw'
      have HWN : Hid (Below Wq.heap.size Wq wn) := by rw [hX]; exact X.h.on
      clear hX X x2 x3 x4 xn
      go_wp2
      go_roundw
      case rel => exact ⟨k + 1, by rw [← HNX.out], by go_num, by omega, bt HUq.out HWN.out⟩
      case measure => simp [intOf]; omega
    · have HE : Hid (num (missP Ts (Rs.take k) r) = num (missP Ts Rs r)) := by unfold Hid; rw [List.take_of_length_le (by omega)]
      generalize hmk : num (missP Ts (Rs.take k) r) = mk at *
      go_wp2
      go_ret
      exact ⟨ret_u8 HE.out, bt HBa.out HB.out⟩

set_option maxRecDepth 20000 in
set_option maxHeartbeats 2000000 in
theorem implCovers_any (lo lr ls : Nat) (tv sv vv : Value) (Ts : List Tm) (Rs : List Ru) (r : Ru) (w : World) (hT : TmsAt lo w tv Ts) (hR : RusAt lr w sv Rs) (hv : IntsIn ls w vv r.vb) (hz : RuSize r) :
    Calls Tryd.prog 5 #[tv, sv, .agg #[vv, .string r.kd, .string r.tm, .string r.pf]] w fun e w' => e = .returned (.bool (coversB Ts Rs r)) ∧ Below w.heap.size w w' := by
  have HT := hide hT
  have HR := hide hR
  have HV := hide hv
  have HZ := hide hz
  obtain ⟨ta, tcap, rfl⟩ := hT.form
  obtain ⟨sa, scap, rfl⟩ := hR.form
  obtain ⟨a, cap, rfl⟩ := hv.form
  clear hT hR hv hz
  go_enter Tryd.func5, Tryd.ntmps5
  go_wp2_with fail
  generalize hWa : w.alloc _ = Wa
  have HBa : Hid (Below w.heap.size w Wa) := by rw [← hWa]; exact one_al _ _
  have FA : Hid (Box Wa w.heap.size #[.slice a r.vb.length cap, .string r.kd, .string r.tm, .string r.pf]) := by rw [← hWa]; exact Box.new _ _ _ _ rfl
  clear hWa
  refine (rulesOk_any lo lr ls _ _ _ Ts Rs r _ (HT.out.below HBa.out) (HR.out.below HBa.out) (HV.out.below HBa.out) HZ.out).mono ?_
  rintro e w1 ⟨rfl, hb1⟩
  have HB1 : Hid (Below w.heap.size w w1) := bt HBa.out hb1
  replace FA := hide (FA.out.on hb1)
  clear hb1 HBa
  cases q1 : allokB Ts Rs r with
  | false =>
    have HX : Hid (coversB Ts Rs r = false) := by unfold Hid coversB; rw [q1]; rfl
    go_wp2
    go_ret
    exact ⟨ret_bool HX.out.symm, HB1.out⟩
  | true =>
    have HX : Hid (coversB Ts Rs r = (num (missP Ts Rs r) == 0)) := by unfold Hid coversB; rw [q1]; rfl
    have g0 := FA.out.cell
    have gl := FA.out.lt
    go_wp2_with fail
    clear g0 gl
    refine (missing_any lo lr ls _ _ _ Ts Rs r _ (HT.out.below HB1.out) (HR.out.below HB1.out) (HV.out.below HB1.out)).mono ?_
    rintro e w2 ⟨rfl, hb2⟩
    have HB2 : Hid (Below w.heap.size w w2) := bt HB1.out hb2
    clear hb2 HB1 FA
    generalize hlv : num (missP Ts Rs r) = lv at *
    go_wp2
    go_ret
    exact ⟨ret_bool HX.out.symm, HB2.out⟩
end Go.Proofs.YtobijdenhbpdfaaDoor

