import Derived.Test.YtdeammfdkaomlaaGreatV36
namespace Go.Proofs.YtdeammfdkaomlaaGreat
open Go.RowKit Go.Deep

def houseB (U : Ho) : Bool := teamsB U.tm && decide (U.gr.length ≤ 24) && firstsB U.gr

set_option maxRecDepth 100000 in
set_option maxHeartbeats 16000000 in
theorem specHouse_any (lo : Nat) (cs : List Value) (U : Ho) (w : World) (h : HoC lo w cs U) :
    Calls Tryz.prog 26 #[.agg cs.toArray] w fun e w' => e = .returned (.bool (houseB U)) ∧ Below w.heap.size w w' := by
  obtain ⟨a0, k0, a1, k1, rfl, h⟩ := h
  show Calls Tryz.prog 26 #[.agg #[.slice a0 U.tm.length k0, .slice a1 U.gr.length k1]] w _
  have HT := hide h.l0
  have HG := hide h.l1
  have HI : Hid (houseB U = (teamsB U.tm && decide (U.gr.length ≤ 24) && firstsB U.gr)) := rfl
  clear h
  go_enter Tryz.func26, Tryz.ntmps26
  go_wp2_with fail
  generalize hWa : w.alloc _ = Wa
  have HB : Hid (Below w.heap.size w Wa) := by unfold Hid; rw [← hWa]; exact one_al w _
  have HX : Hid (Box Wa w.heap.size #[.slice a0 U.tm.length k0, .slice a1 U.gr.length k1]) := by unfold Hid; rw [← hWa]; exact Box.new _ _ _ _ rfl
  clear hWa
  refine (specTeams_any lo _ U.tm _ (HT.out.below HB.out)).mono ?_
  rintro e w1 ⟨rfl, hb1⟩
  have HB1 : Hid (Below w.heap.size w w1) := bt HB.out hb1
  have HX1 := hide (HX.out.on hb1)
  clear hb1 HB HX
  cases ht : teamsB U.tm with
  | false =>
    have HE : Hid (houseB U = false) := by unfold Hid; rw [HI.out, ht]; rfl
    go_wp2
    go_ret
    exact ⟨ret_bool HE.out.symm, HB1.out⟩
  | true =>
    have x1 := HX1.out.cell 1
    simp at x1
    by_cases hl : U.gr.length ≤ 24
    case neg =>
      have HE : Hid (houseB U = false) := by unfold Hid; rw [HI.out, ht, decide_eq_false hl]; rfl
      have hgt : decide ((24 : Int) < (U.gr.length : Int)) = true := by simp; omega
      go_wp2
      go_ret
      exact ⟨ret_bool HE.out.symm, HB1.out⟩
    have HE : Hid (houseB U = firstsB U.gr) := by unfold Hid; rw [HI.out, ht, decide_eq_true hl]; rfl
    have hgt : decide ((24 : Int) < (U.gr.length : Int)) = false := by simp; omega
    go_wp2
    clear x1 hgt ht
    go_loopw [3] (fun i wr => ∃ m : Nat, i = .int .i64 m ∧ m ≤ U.gr.length ∧ Below w.heap.size w wr ∧ Box wr w.heap.size #[.slice a0 U.tm.length k0, .slice a1 U.gr.length k1] ∧ ∀ j (h : j < U.gr.length), j < m → firstB j U.gr[j] = true) (fun i _ => U.gr.length - (intOf i).toNat)
    case atStart => exact ⟨0, rfl, Nat.zero_le _, HB1.out, HX1.out, fun j _ h => by omega⟩
    case round =>
      obtain ⟨m, rfl, hm, hb, hx, hall⟩ := hrel
      have HBr := hide hb
      have HXr := hide hx
      have HA := hide hall
      have x1 := hx.cell 1
      simp at x1
      clear hb hx hall HB1 HX1
      by_cases hlt : m < U.gr.length
      · obtain ⟨b, off, rfl, hbw, -, hc⟩ := HG.out.full' (by omega)
        obtain ⟨hs, vv0, hcell, hv0⟩ := hc m hlt
        obtain ⟨c0, c1, c2, c3, c4, c5, c6⟩ := hcell.below HBr.out hbw
        have HZ := hide hs
        have HV := hide (hv0.below HBr.out)
        obtain ⟨va, vcap, rfl⟩ := hv0.form
        have HQ : Hid (firstB m U.gr[m] = (decide (U.gr[m].nu = (m : Int) + 1) && nameB U.gr[m].tw && U.gr[m].gb.toList.isEmpty && ruleB U.gr[m].ru)) := rfl
        have HRZ : Hid (RuSize U.gr[m].ru) := ⟨HZ.out.s2, HZ.out.s3, HZ.out.s4⟩
        have s0 := hs.s0
        have s1 := hs.s1
        have HBA : ∀ o, Hid (Below w.heap.size w (wr.alloc o)) := fun o => HBr.out.trans ((one_al _ _).mono HBr.out.size)
        have HN : Hid (firstB m U.gr[m] = false → houseB U = false) := fun h => HE.out.trans (firsts_no hlt h)
        clear hc hcell hv0 hs
        by_cases h1 : U.gr[m].nu = (m : Int) + 1
        case neg =>
          have HF : Hid (houseB U = false) := HN.out (by rw [HQ.out, decide_eq_false h1]; rfl)
          go_wp2
          go_ret
          exact ⟨ret_bool HF.out.symm, (HBA _).out⟩
        cases h2 : nameB U.gr[m].tw with
        | false =>
          have HF : Hid (houseB U = false) := HN.out (by rw [HQ.out, decide_eq_true h1, h2]; rfl)
          go_wp2_with (first | (go_at_call 93; refine (nameOk_any _ _ s0).mono ?_; rintro e w' ⟨rfl, rfl⟩))
          go_ret
          exact ⟨ret_bool HF.out.symm, (HBA _).out⟩
        | true =>
          cases h3 : U.gr[m].gb.toList.isEmpty with
          | false =>
            have HF : Hid (houseB U = false) := HN.out (by rw [HQ.out, decide_eq_true h1, h2, h3]; rfl)
            go_wp2_with (first | (go_at_call 93; refine (nameOk_any _ _ s0).mono ?_; rintro e w' ⟨rfl, rfl⟩))
            go_ret
            exact ⟨ret_bool HF.out.symm, (HBA _).out⟩
          | true =>
            cases h4 : ruleB U.gr[m].ru with
            | false =>
              have HF : Hid (houseB U = false) := HN.out (by rw [HQ.out, decide_eq_true h1, h2, h3, h4]; rfl)
              go_wp2_with (first | (go_at_call 93; refine (nameOk_any _ _ s0).mono ?_; rintro e w' ⟨rfl, rfl⟩) | (go_at_call 94; refine (specRule_any lo U.gr[m].ru _ _ (HV.out.below (one_al _ _)) HRZ.out).mono ?_; rintro e w' ⟨rfl, hb⟩; rw [h4]))
              go_ret
              exact ⟨ret_bool HF.out.symm, bt (HBA _).out hb⟩
            | true =>
              have HF : Hid (firstB m U.gr[m] = true) := by unfold Hid; rw [HQ.out, decide_eq_true h1, h2, h3, h4]; rfl
              have HXA : ∀ o, Hid (Box (wr.alloc o) w.heap.size #[.slice a0 U.tm.length k0, .slice (some ⟨b, off, none⟩) U.gr.length k1]) := fun o => HXr.out.on (one_al _ _)
              go_wp2_with (first | (go_at_call 93; refine (nameOk_any _ _ s0).mono ?_; rintro e w' ⟨rfl, rfl⟩) | (go_at_call 94; refine (specRule_any lo U.gr[m].ru _ _ (HV.out.below (one_al _ _)) HRZ.out).mono ?_; rintro e w' ⟨rfl, hb⟩; rw [h4]))
              go_roundw
              case measure => simp [intOf]; omega
              case rel =>
                refine ⟨m + 1, by go_num, by omega, bt (HBA _).out hb, (HXA _).out.on hb, fun j hj hjm => ?_⟩
                rcases Nat.lt_or_ge j m with h | h
                · exact HA.out j hj h
                · have : j = m := by omega
                  subst this
                  exact HF.out
      · have hme : m = U.gr.length := by omega
        go_wp2
        go_ret
        exact ⟨ret_bool (HE.out.trans (firsts_yes fun j h => HA.out j h (by omega))).symm, HBr.out⟩

set_option maxRecDepth 100000 in
set_option maxHeartbeats 16000000 in
theorem implHouse_any (lo : Nat) (cs : List Value) (U : Ho) (w : World) (h : HoC lo w cs U) :
    Calls Tryz.prog 32 #[.agg cs.toArray] w fun e w' => e = .returned (.bool (houseB U)) ∧ Below w.heap.size w w' := by
  obtain ⟨a0, k0, a1, k1, rfl, h⟩ := h
  show Calls Tryz.prog 32 #[.agg #[.slice a0 U.tm.length k0, .slice a1 U.gr.length k1]] w _
  have HT := hide h.l0
  have HG := hide h.l1
  have HI : Hid (houseB U = (teamsB U.tm && decide (U.gr.length ≤ 24) && firstsB U.gr)) := rfl
  clear h
  go_enter Tryz.func32, Tryz.ntmps32
  go_wp2_with fail
  generalize hWa : w.alloc _ = Wa
  have HB : Hid (Below w.heap.size w Wa) := by unfold Hid; rw [← hWa]; exact one_al w _
  have HX : Hid (Box Wa w.heap.size #[.slice a0 U.tm.length k0, .slice a1 U.gr.length k1]) := by unfold Hid; rw [← hWa]; exact Box.new _ _ _ _ rfl
  clear hWa
  refine (implTeams_any lo _ U.tm _ (HT.out.below HB.out)).mono ?_
  rintro e w1 ⟨rfl, hb1⟩
  have HB1 : Hid (Below w.heap.size w w1) := bt HB.out hb1
  have HX1 := hide (HX.out.on hb1)
  clear hb1 HB HX
  cases ht : teamsB U.tm with
  | false =>
    have HE : Hid (houseB U = false) := by unfold Hid; rw [HI.out, ht]; rfl
    go_wp2
    go_ret
    exact ⟨ret_bool HE.out.symm, HB1.out⟩
  | true =>
    have x1 := HX1.out.cell 1
    simp at x1
    by_cases hl : U.gr.length ≤ 24
    case neg =>
      have HE : Hid (houseB U = false) := by unfold Hid; rw [HI.out, ht, decide_eq_false hl]; rfl
      have hgt : decide ((24 : Int) < (U.gr.length : Int)) = true := by simp; omega
      go_wp2
      go_ret
      exact ⟨ret_bool HE.out.symm, HB1.out⟩
    have HE : Hid (houseB U = firstsB U.gr) := by unfold Hid; rw [HI.out, ht, decide_eq_true hl]; rfl
    have hgt : decide ((24 : Int) < (U.gr.length : Int)) = false := by simp; omega
    go_wp2
    clear x1 hgt ht
    go_loopw [18] (fun i wr => ∃ m : Nat, i = .int .i64 m ∧ m ≤ U.gr.length ∧ Below w.heap.size w wr ∧ Box wr w.heap.size #[.slice a0 U.tm.length k0, .slice a1 U.gr.length k1] ∧ ∀ j (h : j < U.gr.length), j < m → firstB j U.gr[j] = true) (fun i _ => U.gr.length - (intOf i).toNat)
    case atStart => exact ⟨0, rfl, Nat.zero_le _, HB1.out, HX1.out, fun j _ h => by omega⟩
    case round =>
      obtain ⟨m, rfl, hm, hb, hx, hall⟩ := hrel
      have HBr := hide hb
      have HXr := hide hx
      have HA := hide hall
      have x1 := hx.cell 1
      simp at x1
      clear hb hx hall HB1 HX1
      by_cases hlt : m < U.gr.length
      · obtain ⟨b, off, rfl, hbw, -, hc⟩ := HG.out.full' (by omega)
        obtain ⟨hs, vv0, hcell, hv0⟩ := hc m hlt
        obtain ⟨c0, c1, c2, c3, c4, c5, c6⟩ := hcell.below HBr.out hbw
        have HZ := hide hs
        have HV := hide (hv0.below HBr.out)
        obtain ⟨va, vcap, rfl⟩ := hv0.form
        have HQ : Hid (firstB m U.gr[m] = (decide (U.gr[m].nu = (m : Int) + 1) && nameB U.gr[m].tw && U.gr[m].gb.toList.isEmpty && ruleB U.gr[m].ru)) := rfl
        have HRZ : Hid (RuSize U.gr[m].ru) := ⟨HZ.out.s2, HZ.out.s3, HZ.out.s4⟩
        have s0 := hs.s0
        have s1 := hs.s1
        have HBA : ∀ o, Hid (Below w.heap.size w (wr.alloc o)) := fun o => HBr.out.trans ((one_al _ _).mono HBr.out.size)
        have HN : Hid (firstB m U.gr[m] = false → houseB U = false) := fun h => HE.out.trans (firsts_no hlt h)
        clear hc hcell hv0 hs
        by_cases h1 : U.gr[m].nu = (m : Int) + 1
        case neg =>
          have HF : Hid (houseB U = false) := HN.out (by rw [HQ.out, decide_eq_false h1]; rfl)
          go_wp2
          go_ret
          exact ⟨ret_bool HF.out.symm, (HBA _).out⟩
        cases h2 : nameB U.gr[m].tw with
        | false =>
          have HF : Hid (houseB U = false) := HN.out (by rw [HQ.out, decide_eq_true h1, h2]; rfl)
          go_wp2_with (first | (go_at_call 101; refine (isName_any _ _ s0).mono ?_; rintro e w' ⟨rfl, rfl⟩))
          go_ret
          exact ⟨ret_bool HF.out.symm, (HBA _).out⟩
        | true =>
          cases h3 : U.gr[m].gb.toList.isEmpty with
          | false =>
            have HF : Hid (houseB U = false) := HN.out (by rw [HQ.out, decide_eq_true h1, h2, h3]; rfl)
            go_wp2_with (first | (go_at_call 101; refine (isName_any _ _ s0).mono ?_; rintro e w' ⟨rfl, rfl⟩))
            go_ret
            exact ⟨ret_bool HF.out.symm, (HBA _).out⟩
          | true =>
            cases h4 : ruleB U.gr[m].ru with
            | false =>
              have HF : Hid (houseB U = false) := HN.out (by rw [HQ.out, decide_eq_true h1, h2, h3, h4]; rfl)
              go_wp2_with (first | (go_at_call 101; refine (isName_any _ _ s0).mono ?_; rintro e w' ⟨rfl, rfl⟩) | (go_at_call 102; refine (implRule_any lo U.gr[m].ru _ _ (HV.out.below (one_al _ _)) HRZ.out).mono ?_; rintro e w' ⟨rfl, hb⟩; rw [h4]))
              go_ret
              exact ⟨ret_bool HF.out.symm, bt (HBA _).out hb⟩
            | true =>
              have HF : Hid (firstB m U.gr[m] = true) := by unfold Hid; rw [HQ.out, decide_eq_true h1, h2, h3, h4]; rfl
              have HXA : ∀ o, Hid (Box (wr.alloc o) w.heap.size #[.slice a0 U.tm.length k0, .slice (some ⟨b, off, none⟩) U.gr.length k1]) := fun o => HXr.out.on (one_al _ _)
              go_wp2_with (first | (go_at_call 101; refine (isName_any _ _ s0).mono ?_; rintro e w' ⟨rfl, rfl⟩) | (go_at_call 102; refine (implRule_any lo U.gr[m].ru _ _ (HV.out.below (one_al _ _)) HRZ.out).mono ?_; rintro e w' ⟨rfl, hb⟩; rw [h4]))
              go_roundw
              case measure => simp [intOf]; omega
              case rel =>
                refine ⟨m + 1, by go_num, by omega, bt (HBA _).out hb, (HXA _).out.on hb, fun j hj hjm => ?_⟩
                rcases Nat.lt_or_ge j m with h | h
                · exact HA.out j hj h
                · have : j = m := by omega
                  subst this
                  exact HF.out
      · have hme : m = U.gr.length := by omega
        go_wp2
        go_ret
        exact ⟨ret_bool (HE.out.trans (firsts_yes fun j h => HA.out j h (by omega))).symm, HBr.out⟩
end Go.Proofs.YtdeammfdkaomlaaGreat
