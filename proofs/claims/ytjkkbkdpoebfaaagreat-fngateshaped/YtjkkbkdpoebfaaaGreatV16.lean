import Derived.Test.YtjkkbkdpoebfaaaGreatV11
namespace Go.Proofs.YtjkkbkdpoebfaaaGreat
open Go.RowKit Go.Deep

theorem shapes_no {Ss : List Sh} {k : Nat} (hk : k < Ss.length) (h : shapeAt Ss k = false) : shapesB Ss = false := by
  unfold shapesB; rw [range_not hk h]; simp
theorem fields_no {Ss : List Sh} {Fs : List Fd} {k : Nat} (hk : k < Fs.length) (h : fieldAt Ss Fs k = false) : fieldsB Ss Fs = false := by
  unfold fieldsB; rw [range_not hk h]; simp
theorem fields_big {Ss : List Sh} {Fs : List Fd} (h : ¬ Fs.length ≤ 6) : fieldsB Ss Fs = false := by
  unfold fieldsB; simp [h]
theorem fields_yes {Ss : List Sh} {Fs : List Fd} (h : Fs.length ≤ 6) (hall : ∀ i, i < Fs.length → fieldAt Ss Fs i = true) : fieldsB Ss Fs = true := by
  unfold fieldsB; rw [range_all hall]; simp [h]

set_option maxHeartbeats 4000000 in
theorem specShapes_any (lo : Nat) (v : Value) (Ss : List Sh) (w : World) (hv : ShsAt lo w v Ss) :
    Calls Tryz.prog 34 #[v] w fun e w' => e = .returned (.bool (shapesB Ss)) ∧ Below w.heap.size w w' := by
  have HL := hide hv
  by_cases hL : Ss = []
  · subst hL
    obtain ⟨a, cap, rfl⟩ := hv.form
    clear hv
    go_enter Tryz.func34, Tryz.ntmps34
    go_wp2
    go_loop [3] (fun i => i = .int .i64 0) (fun _ => 0)
    case atStart => rfl
    case round =>
      subst hrel
      go_wp2
      go_ret
      exact ⟨rfl, Below.refl _ _⟩
  obtain ⟨b, off, cap, rfl, hm, hbw, hc⟩ := hv.full hL
  clear hv
  unfold maxLen at hm
  by_cases h6 : (Ss.length : Int) ≤ 6
  · go_enter Tryz.func34, Tryz.ntmps34
    go_wp2
    go_loopw [3] (fun i wr => ∃ k : Nat, i = .int .i64 k ∧ k ≤ Ss.length ∧ Below w.heap.size w wr ∧ ∀ i, i < k → shapeAt Ss i = true) (fun i _ => Ss.length - (intOf i).toNat)
    case atStart => exact ⟨0, rfl, by omega, Below.refl _ _, fun i h => by omega⟩
    case round =>
      obtain ⟨k, rfl, hk, hb, hall⟩ := hrel
      have HA := hide hall
      have HB := hide hb
      clear hall hb
      obtain ⟨wo, rfl⟩ : ∃ wo : World, wo = wr := ⟨_, rfl⟩
      by_cases hlt : k < Ss.length
      · obtain ⟨hsz, fv, d0, d1, hst⟩ := hc k hlt
        have c0 : wo.cell? ⟨b, off + k * 2, none⟩ = some (.string Ss[k].kind) := by rw [HB.out.cell (p := ⟨b, _, none⟩) hbw]; exact d0
        have c1 : wo.cell? ⟨b, off + k * 2 + 1, none⟩ = some fv := by rw [HB.out.cell (p := ⟨b, _, none⟩) hbw]; exact d1
        have HST := hide hst
        obtain ⟨fa, fcap, rfl⟩ := hst.form
        clear d0 d1 hst
        cases hnm : nameB Ss[k].kind with
        | false =>
          have HN : Hid (shapesB Ss = false) := by
            unfold Hid
            refine shapes_no hlt ?_
            cases k with
            | zero => rw [shapeAt_zero hlt, hnm]; rfl
            | succ j => rw [shapeAt_succ hlt, hnm]; rfl
          go_wp2
          go_quiet ((go_at_call 55; exact Calls.quiet_of_same (nameOk_any _ _ hsz)))
          go_wp2
          go_ret
          exact ⟨ret_bool HN.out.symm, below_drewN (HB.out.alloc HB.out.size _) _⟩
        | true =>
          cases k with
          | zero =>
            have HEQ : Hid (shapeAt Ss 0 = fieldsB Ss Ss[0].fields) := by unfold Hid; rw [shapeAt_zero hlt, hnm]; rfl
            have c0' : wo.cell? ⟨b, off, none⟩ = some (.string Ss[0].kind) := by simpa using c0
            have c1' : wo.cell? ⟨b, off + 1, none⟩ = some (.slice fa Ss[0].fields.length fcap) := by simpa using c1
            clear c0 c1
            by_cases h6f : Ss[0].fields.length ≤ 6
            · have h6i : (Ss[0].fields.length : Int) ≤ 6 := by omega
              by_cases hF : Ss[0].fields = []
              · have hl0 : Ss[0].fields.length ≤ 0 := by rw [hF]; simp
                clear hF
                have hO : Hid (Below (wo.heap.size + 1) (wo.alloc (.cells #[.string Ss[0].kind, .slice fa Ss[0].fields.length fcap] 45)) (wo.alloc (.cells #[.string Ss[0].kind, .slice fa Ss[0].fields.length fcap] 45))) := Below.refl _ _
                go_wp2
                go_quiet ((go_at_call 55; exact Calls.quiet_of_same (nameOk_any _ _ hsz)))
                try simp only [hnm]
                go_wp2
                go_loopw [5] (fun i u => ∃ q : Nat, i = .int .i64 q ∧ q ≤ Ss[0].fields.length ∧ Below (wo.heap.size + 1) (wo.alloc (.cells #[.string Ss[0].kind, .slice fa Ss[0].fields.length fcap] 45)) u ∧ ∀ i, i < q → fieldAt Ss Ss[0].fields i = true) (fun i _ => Ss[0].fields.length - (intOf i).toNat)
                case atStart => exact ⟨0, rfl, by omega, below_drewN hO.out _, fun i h => by omega⟩
                case round =>
                  obtain ⟨q, rfl, hq, hbu, hallq⟩ := hrel
                  have HAQ := hide hallq
                  have HBX := hide hbu
                  have hbx := fun i => box_cell wo wr _ 45 hbu i
                  have HBU : Hid (Below w.heap.size w wr) := HB.out.trans ((((Below.refl _ _).alloc (Nat.le_refl _) _).mono HB.out.size).trans (hbu.mono (by have := HB.out.size; omega)))
                  clear hallq hbu
                  obtain ⟨wi, rfl⟩ : ∃ wi : World, wi = wr := ⟨_, rfl⟩
                  by_cases hql : q < Ss[0].fields.length
                  · omega
                  · go_wp2
                    have HSH : shapeAt Ss (0) = true := by rw [HEQ.out]; exact fields_yes h6f (fun i hi => HAQ.out i (by omega))
                    go_roundw
                    case rel =>
                      have hnx : ∀ i, i < 0 + 1 → shapeAt Ss i = true := fun i hi => by
                        by_cases e : i = 0
                        · rw [e]; exact HSH
                        · exact HA.out i (by omega)
                      first
                        | exact ⟨0 + 1, by go_num, by omega, HBU.out, hnx⟩
                        | ((repeat apply Exists.intro); exact ⟨⟨0 + 1, by go_num, by omega, HBU.out, hnx⟩, rfl⟩)
                    case measure => simp [intOf]; omega
              · obtain ⟨fb, fo, fcap', hfe, _, hfb, _, hfc⟩ := (HST.out.below HB.out).full hF
                simp only [Value.slice.injEq, true_and] at hfe
                obtain ⟨rfl, rfl⟩ := hfe
                have hO : Hid (Below (wo.heap.size + 1) (wo.alloc (.cells #[.string Ss[0].kind, .slice (some ⟨fb, fo, none⟩) Ss[0].fields.length fcap] 45)) (wo.alloc (.cells #[.string Ss[0].kind, .slice (some ⟨fb, fo, none⟩) Ss[0].fields.length fcap] 45))) := Below.refl _ _
                go_wp2
                go_quiet ((go_at_call 55; exact Calls.quiet_of_same (nameOk_any _ _ hsz)))
                try simp only [hnm]
                go_wp2
                go_loopw [5] (fun i u => ∃ q : Nat, i = .int .i64 q ∧ q ≤ Ss[0].fields.length ∧ Below (wo.heap.size + 1) (wo.alloc (.cells #[.string Ss[0].kind, .slice (some ⟨fb, fo, none⟩) Ss[0].fields.length fcap] 45)) u ∧ ∀ i, i < q → fieldAt Ss Ss[0].fields i = true) (fun i _ => Ss[0].fields.length - (intOf i).toNat)
                case atStart => exact ⟨0, rfl, by omega, below_drewN hO.out _, fun i h => by omega⟩
                case round =>
                  obtain ⟨q, rfl, hq, hbu, hallq⟩ := hrel
                  have HAQ := hide hallq
                  have HBX := hide hbu
                  have hbx := fun i => box_cell wo wr _ 45 hbu i
                  have HBU : Hid (Below w.heap.size w wr) := HB.out.trans ((((Below.refl _ _).alloc (Nat.le_refl _) _).mono HB.out.size).trans (hbu.mono (by have := HB.out.size; omega)))
                  clear hallq hbu
                  obtain ⟨wi, rfl⟩ : ∃ wi : World, wi = wr := ⟨_, rfl⟩
                  by_cases hql : q < Ss[0].fields.length
                  · obtain ⟨hzz, wv, hcell, hws⟩ := hfc q hql
                    have HBW : Hid (Below wo.heap.size wo wi) := ((Below.refl _ _).alloc (Nat.le_refl _) _).trans (HBX.out.mono (by omega))
                    obtain ⟨x0, x1, x2, x3, x4, x5, x6, x7, x8, x9, x10⟩ := hcell.below HBW.out hfb
                    clear hcell
                    go_wp2_with fail
                    refine (specField_any lo _ Ss Ss[0].fields[q] _ _ (HL.out.below HBU.out) (hws.at.below HBW.out) hzz).mono ?_
                    rintro e w1 ⟨rfl, hb1⟩
                    have HB1 : Hid (Below w.heap.size w w1) := HBU.out.trans (hb1.mono HBU.out.size)
                    have HBX1 : Hid (Below (wo.heap.size + 1) (wo.alloc (.cells #[.string Ss[0].kind, .slice (some ⟨fb, fo, none⟩) Ss[0].fields.length fcap] 45)) w1) := HBX.out.trans (hb1.mono (by have := HBX.out.size; simp at this; omega))
                    clear hb1 hbx x0 x1 x2 x3 x4 x5 x6 x7 x8 x9 x10
                    cases hfl : (nameB Ss[0].fields[q].nm && restB Ss Ss[0].fields[q]) with
                    | false =>
                      have HN : Hid (shapesB Ss = false) := shapes_no hlt (by rw [HEQ.out]; exact fields_no hql (by rw [fieldAt_of hql, hfl]; rfl))
                      go_wp2
                      go_ret
                      exact ⟨ret_bool HN.out.symm, HB1.out⟩
                    | true =>
                      go_wp2
                      go_loopw [6] (fun i u => ∃ p : Nat, i = .int .i64 p ∧ p ≤ q ∧ Below (wo.heap.size + 1) (wo.alloc (.cells #[.string Ss[0].kind, .slice (some ⟨fb, fo, none⟩) Ss[0].fields.length fcap] 45)) u ∧ ∀ j (hj : j < Ss[0].fields.length), j < p → (Ss[0].fields[j].nm.toList == Ss[0].fields[q].nm.toList) = false) (fun i _ => q - (intOf i).toNat)
                      case atStart => exact ⟨0, rfl, by omega, HBX1.out, fun j _ h => by omega⟩
                      case round =>
                        obtain ⟨p, rfl, hp, hbu, hallp⟩ := hrel
                        have HAP := hide hallp
                        have HBX2 := hide hbu
                        have hbx := fun i => box_cell wo wr _ 45 hbu i
                        have HBU2 : Hid (Below w.heap.size w wr) := HB.out.trans ((((Below.refl _ _).alloc (Nat.le_refl _) _).mono HB.out.size).trans (hbu.mono (by have := HB.out.size; omega)))
                        have HBW2 : Hid (Below wo.heap.size wo wr) := ((Below.refl _ _).alloc (Nat.le_refl _) _).trans (hbu.mono (by omega))
                        clear hallp hbu
                        by_cases hpq : p < q
                        · obtain ⟨_, wvp, hcp, _⟩ := hfc p (by omega)
                          obtain ⟨_, wvq, hcq, _⟩ := hfc q hql
                          have y0 := (hcp.below HBW2.out hfb).c0
                          have z0 := (hcq.below HBW2.out hfb).c0
                          clear hcp hcq
                          have hpl : p < Ss[0].fields.length := by omega
                          cases heq : (Ss[0].fields[p].nm.toList == Ss[0].fields[q].nm.toList) with
                          | true =>
                            have HN : Hid (shapesB Ss = false) := shapes_no hlt (by rw [HEQ.out]; exact fields_no hql (by rw [fieldAt_of hql, dup_stop hpl hpq heq]; simp))
                            go_wp2
                            go_quiet (fail)
                            go_wp2
                            go_ret
                            exact ⟨ret_bool HN.out.symm, below_drewN HBU2.out _⟩
                          | false =>
                            go_wp2
                            go_quiet (fail)
                            go_wp2
                            go_roundw
                            case rel => exact ⟨p + 1, by go_num, by omega, below_drewN HBX2.out _, fun j hj h => by
                                          by_cases e : j = p
                                          · subst e; exact heq
                                          · exact HAP.out j hj (by omega)⟩
                            case measure => simp [intOf]; omega
                        · have HFA : Hid (fieldAt Ss Ss[0].fields q = true) := by
                            unfold Hid
                            rw [fieldAt_of hql, hfl, dup_none (fun j hj h => HAP.out j hj (by omega))]; rfl
                          go_wp2
                          go_roundw
                          case rel =>
                            have hnx : ∀ i, i < q + 1 → fieldAt Ss Ss[0].fields i = true := fun i hi => by
                              by_cases e : i = q
                              · rw [e]; exact HFA.out
                              · exact HAQ.out i (by omega)
                            first
                              | exact ⟨q + 1, by go_num, by omega, HBX2.out, hnx⟩
                              | ((repeat apply Exists.intro); exact ⟨⟨q + 1, by go_num, by omega, HBX2.out, hnx⟩, rfl⟩)
                          case measure => simp [intOf]; omega
                  · go_wp2
                    have HSH : shapeAt Ss (0) = true := by rw [HEQ.out]; exact fields_yes h6f (fun i hi => HAQ.out i (by omega))
                    go_roundw
                    case rel =>
                      have hnx : ∀ i, i < 0 + 1 → shapeAt Ss i = true := fun i hi => by
                        by_cases e : i = 0
                        · rw [e]; exact HSH
                        · exact HA.out i (by omega)
                      first
                        | exact ⟨0 + 1, by go_num, by omega, HBU.out, hnx⟩
                        | ((repeat apply Exists.intro); exact ⟨⟨0 + 1, by go_num, by omega, HBU.out, hnx⟩, rfl⟩)
                    case measure => simp [intOf]; omega
            · have HN : Hid (shapesB Ss = false) := shapes_no hlt (by rw [HEQ.out]; exact fields_big h6f)
              have h6i : ¬ (Ss[0].fields.length : Int) ≤ 6 := by omega
              go_wp2
              go_quiet ((go_at_call 55; exact Calls.quiet_of_same (nameOk_any _ _ hsz)))
              go_wp2
              go_ret
              exact ⟨ret_bool HN.out.symm, below_drewN (HB.out.alloc HB.out.size _) _⟩
          | succ jj =>
            obtain ⟨_, fvj, dj, _, _⟩ := hc jj (by omega)
            have cj : wo.cell? ⟨b, off + jj * 2, none⟩ = some (.string Ss[jj].kind) := by rw [HB.out.cell (p := ⟨b, _, none⟩) hbw]; exact dj
            clear dj
            have hjw : IntKind.i64.wrap (jj : Int) = jj := by rw [IntKind.wrap_i64]; omega
            have hjl : jj < Ss.length := by omega
            have hdl : decide ((jj : Int) + 1 < (Ss.length : Int)) = true := by simp; omega
            have hbo : b < wo.heap.size := Nat.lt_of_lt_of_le hbw HB.out.size
            have cj2 : ∀ o, (wo.alloc o).cell? ⟨b, off + jj * 2, none⟩ = some (.string Ss[jj].kind) := fun o => by rw [((Below.refl wo.heap.size wo).alloc (Nat.le_refl _) o).cell (p := ⟨b, _, none⟩) hbo]; exact cj
            have cj3 : ∀ o n, ((wo.alloc o).drewN n).cell? ⟨b, off + jj * 2, none⟩ = some (.string Ss[jj].kind) := fun o n => cj2 o
            cases hls : Op.bytesLess Ss[jj].kind.toList Ss[jj + 1].kind.toList with
            | false =>
              have HN : Hid (shapesB Ss = false) := shapes_no hlt (by rw [shapeAt_succ hlt, hls]; simp)
              go_wp2
              go_quiet ((go_at_call 55; exact Calls.quiet_of_same (nameOk_any _ _ hsz)))
              go_wp2
              go_ret
              exact ⟨ret_bool HN.out.symm, below_drewN (HB.out.alloc HB.out.size _) _⟩
            | true =>
              have HEQ : Hid (shapeAt Ss (jj + 1) = fieldsB Ss Ss[jj + 1].fields) := by unfold Hid; rw [shapeAt_succ hlt, hnm, hls]; rfl
              by_cases h6f : Ss[jj + 1].fields.length ≤ 6
              · have h6i : (Ss[jj + 1].fields.length : Int) ≤ 6 := by omega
                by_cases hF : Ss[jj + 1].fields = []
                · have hl0 : Ss[jj + 1].fields.length ≤ 0 := by rw [hF]; simp
                  clear hF
                  have hO : Hid (Below (wo.heap.size + 1) (wo.alloc (.cells #[.string Ss[jj + 1].kind, .slice fa Ss[jj + 1].fields.length fcap] 45)) (wo.alloc (.cells #[.string Ss[jj + 1].kind, .slice fa Ss[jj + 1].fields.length fcap] 45))) := Below.refl _ _
                  go_wp2
                  go_quiet ((go_at_call 55; exact Calls.quiet_of_same (nameOk_any _ _ hsz)))
                  try simp only [hnm]
                  go_wp2
                  go_loopw [5] (fun i u => ∃ q : Nat, i = .int .i64 q ∧ q ≤ Ss[jj + 1].fields.length ∧ Below (wo.heap.size + 1) (wo.alloc (.cells #[.string Ss[jj + 1].kind, .slice fa Ss[jj + 1].fields.length fcap] 45)) u ∧ ∀ i, i < q → fieldAt Ss Ss[jj + 1].fields i = true) (fun i _ => Ss[jj + 1].fields.length - (intOf i).toNat)
                  case atStart => exact ⟨0, rfl, by omega, below_drewN hO.out _, fun i h => by omega⟩
                  case round =>
                    obtain ⟨q, rfl, hq, hbu, hallq⟩ := hrel
                    have HAQ := hide hallq
                    have HBX := hide hbu
                    have hbx := fun i => box_cell wo wr _ 45 hbu i
                    have HBU : Hid (Below w.heap.size w wr) := HB.out.trans ((((Below.refl _ _).alloc (Nat.le_refl _) _).mono HB.out.size).trans (hbu.mono (by have := HB.out.size; omega)))
                    clear hallq hbu
                    obtain ⟨wi, rfl⟩ : ∃ wi : World, wi = wr := ⟨_, rfl⟩
                    by_cases hql : q < Ss[jj + 1].fields.length
                    · omega
                    · go_wp2
                      have HSH : shapeAt Ss (jj + 1) = true := by rw [HEQ.out]; exact fields_yes h6f (fun i hi => HAQ.out i (by omega))
                      go_roundw
                      case rel =>
                        have hnx : ∀ i, i < jj + 1 + 1 → shapeAt Ss i = true := fun i hi => by
                          by_cases e : i = jj + 1
                          · rw [e]; exact HSH
                          · exact HA.out i (by omega)
                        first
                          | exact ⟨jj + 1 + 1, by go_num, by omega, HBU.out, hnx⟩
                          | ((repeat apply Exists.intro); exact ⟨⟨jj + 1 + 1, by go_num, by omega, HBU.out, hnx⟩, rfl⟩)
                      case measure => simp [intOf]; omega
                · obtain ⟨fb, fo, fcap', hfe, _, hfb, _, hfc⟩ := (HST.out.below HB.out).full hF
                  simp only [Value.slice.injEq, true_and] at hfe
                  obtain ⟨rfl, rfl⟩ := hfe
                  have hO : Hid (Below (wo.heap.size + 1) (wo.alloc (.cells #[.string Ss[jj + 1].kind, .slice (some ⟨fb, fo, none⟩) Ss[jj + 1].fields.length fcap] 45)) (wo.alloc (.cells #[.string Ss[jj + 1].kind, .slice (some ⟨fb, fo, none⟩) Ss[jj + 1].fields.length fcap] 45))) := Below.refl _ _
                  go_wp2
                  go_quiet ((go_at_call 55; exact Calls.quiet_of_same (nameOk_any _ _ hsz)))
                  try simp only [hnm]
                  go_wp2
                  go_loopw [5] (fun i u => ∃ q : Nat, i = .int .i64 q ∧ q ≤ Ss[jj + 1].fields.length ∧ Below (wo.heap.size + 1) (wo.alloc (.cells #[.string Ss[jj + 1].kind, .slice (some ⟨fb, fo, none⟩) Ss[jj + 1].fields.length fcap] 45)) u ∧ ∀ i, i < q → fieldAt Ss Ss[jj + 1].fields i = true) (fun i _ => Ss[jj + 1].fields.length - (intOf i).toNat)
                  case atStart => exact ⟨0, rfl, by omega, below_drewN hO.out _, fun i h => by omega⟩
                  case round =>
                    obtain ⟨q, rfl, hq, hbu, hallq⟩ := hrel
                    have HAQ := hide hallq
                    have HBX := hide hbu
                    have hbx := fun i => box_cell wo wr _ 45 hbu i
                    have HBU : Hid (Below w.heap.size w wr) := HB.out.trans ((((Below.refl _ _).alloc (Nat.le_refl _) _).mono HB.out.size).trans (hbu.mono (by have := HB.out.size; omega)))
                    clear hallq hbu
                    obtain ⟨wi, rfl⟩ : ∃ wi : World, wi = wr := ⟨_, rfl⟩
                    by_cases hql : q < Ss[jj + 1].fields.length
                    · obtain ⟨hzz, wv, hcell, hws⟩ := hfc q hql
                      have HBW : Hid (Below wo.heap.size wo wi) := ((Below.refl _ _).alloc (Nat.le_refl _) _).trans (HBX.out.mono (by omega))
                      obtain ⟨x0, x1, x2, x3, x4, x5, x6, x7, x8, x9, x10⟩ := hcell.below HBW.out hfb
                      clear hcell
                      go_wp2_with fail
                      refine (specField_any lo _ Ss Ss[jj + 1].fields[q] _ _ (HL.out.below HBU.out) (hws.at.below HBW.out) hzz).mono ?_
                      rintro e w1 ⟨rfl, hb1⟩
                      have HB1 : Hid (Below w.heap.size w w1) := HBU.out.trans (hb1.mono HBU.out.size)
                      have HBX1 : Hid (Below (wo.heap.size + 1) (wo.alloc (.cells #[.string Ss[jj + 1].kind, .slice (some ⟨fb, fo, none⟩) Ss[jj + 1].fields.length fcap] 45)) w1) := HBX.out.trans (hb1.mono (by have := HBX.out.size; simp at this; omega))
                      clear hb1 hbx x0 x1 x2 x3 x4 x5 x6 x7 x8 x9 x10
                      cases hfl : (nameB Ss[jj + 1].fields[q].nm && restB Ss Ss[jj + 1].fields[q]) with
                      | false =>
                        have HN : Hid (shapesB Ss = false) := shapes_no hlt (by rw [HEQ.out]; exact fields_no hql (by rw [fieldAt_of hql, hfl]; rfl))
                        go_wp2
                        go_ret
                        exact ⟨ret_bool HN.out.symm, HB1.out⟩
                      | true =>
                        go_wp2
                        go_loopw [6] (fun i u => ∃ p : Nat, i = .int .i64 p ∧ p ≤ q ∧ Below (wo.heap.size + 1) (wo.alloc (.cells #[.string Ss[jj + 1].kind, .slice (some ⟨fb, fo, none⟩) Ss[jj + 1].fields.length fcap] 45)) u ∧ ∀ j (hj : j < Ss[jj + 1].fields.length), j < p → (Ss[jj + 1].fields[j].nm.toList == Ss[jj + 1].fields[q].nm.toList) = false) (fun i _ => q - (intOf i).toNat)
                        case atStart => exact ⟨0, rfl, by omega, HBX1.out, fun j _ h => by omega⟩
                        case round =>
                          obtain ⟨p, rfl, hp, hbu, hallp⟩ := hrel
                          have HAP := hide hallp
                          have HBX2 := hide hbu
                          have hbx := fun i => box_cell wo wr _ 45 hbu i
                          have HBU2 : Hid (Below w.heap.size w wr) := HB.out.trans ((((Below.refl _ _).alloc (Nat.le_refl _) _).mono HB.out.size).trans (hbu.mono (by have := HB.out.size; omega)))
                          have HBW2 : Hid (Below wo.heap.size wo wr) := ((Below.refl _ _).alloc (Nat.le_refl _) _).trans (hbu.mono (by omega))
                          clear hallp hbu
                          by_cases hpq : p < q
                          · obtain ⟨_, wvp, hcp, _⟩ := hfc p (by omega)
                            obtain ⟨_, wvq, hcq, _⟩ := hfc q hql
                            have y0 := (hcp.below HBW2.out hfb).c0
                            have z0 := (hcq.below HBW2.out hfb).c0
                            clear hcp hcq
                            have hpl : p < Ss[jj + 1].fields.length := by omega
                            cases heq : (Ss[jj + 1].fields[p].nm.toList == Ss[jj + 1].fields[q].nm.toList) with
                            | true =>
                              have HN : Hid (shapesB Ss = false) := shapes_no hlt (by rw [HEQ.out]; exact fields_no hql (by rw [fieldAt_of hql, dup_stop hpl hpq heq]; simp))
                              go_wp2
                              go_quiet (fail)
                              go_wp2
                              go_ret
                              exact ⟨ret_bool HN.out.symm, below_drewN HBU2.out _⟩
                            | false =>
                              go_wp2
                              go_quiet (fail)
                              go_wp2
                              go_roundw
                              case rel => exact ⟨p + 1, by go_num, by omega, below_drewN HBX2.out _, fun j hj h => by
                                            by_cases e : j = p
                                            · subst e; exact heq
                                            · exact HAP.out j hj (by omega)⟩
                              case measure => simp [intOf]; omega
                          · have HFA : Hid (fieldAt Ss Ss[jj + 1].fields q = true) := by
                              unfold Hid
                              rw [fieldAt_of hql, hfl, dup_none (fun j hj h => HAP.out j hj (by omega))]; rfl
                            go_wp2
                            go_roundw
                            case rel =>
                              have hnx : ∀ i, i < q + 1 → fieldAt Ss Ss[jj + 1].fields i = true := fun i hi => by
                                by_cases e : i = q
                                · rw [e]; exact HFA.out
                                · exact HAQ.out i (by omega)
                              first
                                | exact ⟨q + 1, by go_num, by omega, HBX2.out, hnx⟩
                                | ((repeat apply Exists.intro); exact ⟨⟨q + 1, by go_num, by omega, HBX2.out, hnx⟩, rfl⟩)
                            case measure => simp [intOf]; omega
                    · go_wp2
                      have HSH : shapeAt Ss (jj + 1) = true := by rw [HEQ.out]; exact fields_yes h6f (fun i hi => HAQ.out i (by omega))
                      go_roundw
                      case rel =>
                        have hnx : ∀ i, i < jj + 1 + 1 → shapeAt Ss i = true := fun i hi => by
                          by_cases e : i = jj + 1
                          · rw [e]; exact HSH
                          · exact HA.out i (by omega)
                        first
                          | exact ⟨jj + 1 + 1, by go_num, by omega, HBU.out, hnx⟩
                          | ((repeat apply Exists.intro); exact ⟨⟨jj + 1 + 1, by go_num, by omega, HBU.out, hnx⟩, rfl⟩)
                      case measure => simp [intOf]; omega
              · have HN : Hid (shapesB Ss = false) := shapes_no hlt (by rw [HEQ.out]; exact fields_big h6f)
                have h6i : ¬ (Ss[jj + 1].fields.length : Int) ≤ 6 := by omega
                go_wp2
                go_quiet ((go_at_call 55; exact Calls.quiet_of_same (nameOk_any _ _ hsz)))
                go_wp2
                go_ret
                exact ⟨ret_bool HN.out.symm, below_drewN (HB.out.alloc HB.out.size _) _⟩
      · go_wp2
        go_ret
        refine ⟨ret_bool ?_, HB.out⟩
        unfold shapesB
        rw [range_all (fun i hi => HA.out i (by omega))]
        simp; omega
  · go_enter Tryz.func34, Tryz.ntmps34
    go_wp2
    go_ret
    exact ⟨ret_bool (by unfold shapesB; simp; intro h; omega), Below.refl _ _⟩
end Go.Proofs.YtjkkbkdpoebfaaaGreat
