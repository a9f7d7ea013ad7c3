import Derived.Test.YtmaagbnjpdijnaaT2
namespace Go.Proofs.Ytmaagbnjpdijnaa
open Go.RowKit Go.Deep

set_option maxRecDepth 20000 in
set_option maxHeartbeats 4000000 in
theorem implTeams_any (lo : Nat) (v : Value) (Ts : List Tm) (w : World) (hv : TmsAt lo w v Ts) :
    Calls Try.prog 46 #[v] w fun e w' => e = .returned (.bool (teamsB Ts)) ∧ Below w.heap.size w w' := by
  by_cases h12 : ¬ Ts.length ≤ 12
  · have HR := hide (teams_big h12)
    have hmx := hv.max
    unfold maxLen at hmx
    obtain ⟨a, cap, rfl⟩ := hv.form
    go_enter Try.func46, Try.ntmps46
    go_wp2
    go_ret
    exact ⟨ret_bool HR.out.symm, Below.refl _ _⟩
  replace h12 : Ts.length ≤ 12 := by omega
  by_cases hL : Ts = []
  · subst hL
    obtain ⟨a, cap, rfl⟩ := hv.form
    clear hv
    go_enter Try.func46, Try.ntmps46
    go_wp2
    go_loop [10] (fun i => i = .int .i64 0) (fun _ => 0)
    case atStart => rfl
    case round =>
      subst hrel
      go_wp2
      go_ret
      exact ⟨ret_bool (by rfl), Below.refl _ _⟩
  · have HV := hide hv
    obtain ⟨b, off, cap, rfl, hm, hbw, _, hc⟩ := hv.full hL
    clear hv hm
    have H12 := hide h12
    have h12i : decide ((12 : Int) < (Ts.length : Int)) = false := by simp; omega
    go_enter Try.func46, Try.ntmps46
    go_wp2
    go_loopw [10] (fun i wr => ∃ k : Nat, i = .int .i64 k ∧ k ≤ Ts.length ∧ Below w.heap.size w wr ∧ ∀ i, i < k → teamAt Ts i = true) (fun i _ => Ts.length - (intOf i).toNat)
    case atStart => exact ⟨0, rfl, by omega, Below.refl _ _, fun i h => by omega⟩
    case round =>
      obtain ⟨k, rfl, hk, hb, hall⟩ := hrel
      have HA := hide hall
      have HB := hide hb
      clear hall hb
      by_cases hlt : k < Ts.length
      · obtain ⟨hsz, hcell⟩ := hc k hlt
        have HSZ := hide hsz
        obtain ⟨c0, c1⟩ := hcell.below HB.out hbw
        clear hcell hsz
        cases hn : nameB Ts[k].nm with
        | false =>
          go_wp2
          go_quiet ((go_at_call 47; exact (isName_any _ _ HSZ.out.s0).mono fun _ _ h => ⟨h.1, _, h.2⟩))
          go_wp2
          go_ret
          exact ⟨ret_bool (teams_no hlt (by rw [teamAt_eq hlt]; simp [hn])).symm, below_drewN (HB.out.alloc HB.out.size _) _⟩
        | true =>
          cases k with
          | zero =>
            have c0 : wr.cell? ⟨b, off, none⟩ = some (.string Ts[0].nm) := by simpa using c0
            have c1 : wr.cell? ⟨b, off + 1, none⟩ = some (.string Ts[0].ov) := by simpa using c1
            go_wp2
            go_quiet ((go_at_call 47; exact (isName_any _ _ HSZ.out.s0).mono fun _ _ h => ⟨h.1, _, h.2⟩))
            try simp only [hn]
            generalize hWb : World.drewN _ _ = Wb
            have HBX : Hid (Box Wb wr.heap.size #[.string Ts[0].nm, .string Ts[0].ov]) := by rw [← hWb]; exact (Box.new _ _ _ _ rfl).on (below_drewN (Below.refl _ _) _)
            have HBB : Hid (Below w.heap.size w Wb) := by rw [← hWb]; exact below_drewN (HB.out.alloc HB.out.size _) _
            clear hWb
            have b0 : Wb.cell? ⟨wr.heap.size, 0, none⟩ = some (.string Ts[0].nm) := HBX.out.cell 0
            have b1 : Wb.cell? ⟨wr.heap.size, 1, none⟩ = some (.string Ts[0].ov) := HBX.out.cell 1
            cases hoe : Ts[0].ov.toList.isEmpty with
            | true =>
              go_wp2_with fail
              refine (tooDeep_any lo _ Ts Ts[0].nm _ (HV.out.below HBB.out)).mono ?_
              rintro e w2 ⟨rfl, hb2⟩
              have HB2 : Hid (Below w.heap.size w w2) := HBB.out.trans (hb2.mono HBB.out.size)
              clear hb2 HBB HBX b0 b1
              cases hd : deepN Ts 5 Ts[0].nm with
              | true =>
                have HR : Hid (teamsB Ts = false) := teams_no hlt (by rw [teamAt_eq hlt, hd]; simp)
                go_wp2
                go_ret
                exact ⟨ret_bool HR.out.symm, HB2.out⟩
              | false =>
                have HOK : Hid (∀ i, i < 0 + 1 → teamAt Ts i = true) := fun i hi => by
                  by_cases e : i = 0
                  · subst e; rw [teamAt_eq hlt, hd]; simp [hn, hoe]
                  · exact HA.out i (by omega)
                go_wp2
                go_roundw
                case rel => exact ⟨0 + 1, by go_num, by omega, HB2.out, HOK.out⟩
                case measure => simp [intOf]; omega
            | false =>
              go_wp2_with fail
              refine (teamPlace_any lo _ Ts Ts[0].ov _ (HV.out.below HBB.out)).mono ?_
              rintro e w1 ⟨rfl, hb1⟩
              have HBX := hide (HBX.out.on hb1)
              have HBB : Hid (Below w.heap.size w w1) := HBB.out.trans (hb1.mono HBB.out.size)
              clear hb1 b0 b1
              have b0 : w1.cell? ⟨wr.heap.size, 0, none⟩ = some (.string Ts[0].nm) := HBX.out.cell 0
              have b1 : w1.cell? ⟨wr.heap.size, 1, none⟩ = some (.string Ts[0].ov) := HBX.out.cell 1
              by_cases hp : plT Ts Ts[0].ov < Ts.length
              · have hht : hasT Ts Ts[0].ov = true := by rw [hasT_eq]; exact decide_eq_true hp
                rw [placeT_lt hp]
                clear hp
                generalize plT Ts Ts[0].ov = pp
                go_wp2_with fail
                refine (tooDeep_any lo _ Ts Ts[0].nm _ (HV.out.below HBB.out)).mono ?_
                rintro e w2 ⟨rfl, hb2⟩
                have HB2 : Hid (Below w.heap.size w w2) := HBB.out.trans (hb2.mono HBB.out.size)
                clear hb2 HBB HBX b0 b1
                cases hd : deepN Ts 5 Ts[0].nm with
                | true =>
                  have HR : Hid (teamsB Ts = false) := teams_no hlt (by rw [teamAt_eq hlt, hd]; simp)
                  go_wp2
                  go_ret
                  exact ⟨ret_bool HR.out.symm, HB2.out⟩
                | false =>
                  have HOK : Hid (∀ i, i < 0 + 1 → teamAt Ts i = true) := fun i hi => by
                    by_cases e : i = 0
                    · subst e; rw [teamAt_eq hlt, hd]; simp [hn, hoe, hht]
                    · exact HA.out i (by omega)
                  go_wp2
                  go_roundw
                  case rel => exact ⟨0 + 1, by go_num, by omega, HB2.out, HOK.out⟩
                  case measure => simp [intOf]; omega
              · have hht : hasT Ts Ts[0].ov = false := by rw [hasT_eq]; exact decide_eq_false hp
                have HR : Hid (teamsB Ts = false) := teams_no hlt (by rw [teamAt_eq hlt, hht, hoe]; simp)
                rw [placeT_ge hp]
                clear hp
                go_wp2
                go_ret
                exact ⟨ret_bool HR.out.symm, HBB.out⟩
          | succ j =>
            have HBE : Hid (((Ts[j + 1 - 1]?.map Tm.nm).getD ⟨#[]⟩) = Ts[j].nm) := before_eq hlt
            have hcj : wr.cell? ⟨b, off + j * 2, none⟩ = some (.string Ts[j].nm) := by rw [HB.out.cell (p := ⟨b, _, none⟩) hbw]; exact (hc j (by omega)).2.c0
            have hjw : IntKind.i64.wrap (j : Int) = j := by rw [IntKind.wrap_i64]; omega
            have hjl : j < Ts.length := by omega
            have hdl : decide ((j : Int) + 1 < (Ts.length : Int)) = true := by simp; omega
            have hbo : b < wr.heap.size := Nat.lt_of_lt_of_le hbw HB.out.size
            have cj2 : ∀ o, (wr.alloc o).cell? ⟨b, off + j * 2, none⟩ = some (.string Ts[j].nm) := fun o => by rw [((Below.refl wr.heap.size wr).alloc (Nat.le_refl _) o).cell (p := ⟨b, _, none⟩) hbo]; exact hcj
            have cj3 : ∀ o n, ((wr.alloc o).drewN n).cell? ⟨b, off + j * 2, none⟩ = some (.string Ts[j].nm) := fun o n => cj2 o
            cases hls : Op.bytesLess Ts[j].nm.toList Ts[j + 1].nm.toList with
            | false =>
              go_wp2
              go_quiet ((go_at_call 47; exact (isName_any _ _ HSZ.out.s0).mono fun _ _ h => ⟨h.1, _, h.2⟩))
              go_wp2
              go_ret
              exact ⟨ret_bool (teams_no hlt (by rw [teamAt_eq hlt]; rw [HBE.out, hls]; simp)).symm, below_drewN (HB.out.alloc HB.out.size _) _⟩
            | true =>
              go_wp2
              go_quiet ((go_at_call 47; exact (isName_any _ _ HSZ.out.s0).mono fun _ _ h => ⟨h.1, _, h.2⟩))
              try simp only [hn]
              try simp only [hls]
              generalize hWb : World.drewN _ _ = Wb
              have HBX : Hid (Box Wb wr.heap.size #[.string Ts[j + 1].nm, .string Ts[j + 1].ov]) := by rw [← hWb]; exact (Box.new _ _ _ _ rfl).on (below_drewN (Below.refl _ _) _)
              have HBB : Hid (Below w.heap.size w Wb) := by rw [← hWb]; exact below_drewN (HB.out.alloc HB.out.size _) _
              clear hWb
              have b0 : Wb.cell? ⟨wr.heap.size, 0, none⟩ = some (.string Ts[j + 1].nm) := HBX.out.cell 0
              have b1 : Wb.cell? ⟨wr.heap.size, 1, none⟩ = some (.string Ts[j + 1].ov) := HBX.out.cell 1
              cases hoe : Ts[j + 1].ov.toList.isEmpty with
              | true =>
                go_wp2_with fail
                refine (tooDeep_any lo _ Ts Ts[j + 1].nm _ (HV.out.below HBB.out)).mono ?_
                rintro e w2 ⟨rfl, hb2⟩
                have HB2 : Hid (Below w.heap.size w w2) := HBB.out.trans (hb2.mono HBB.out.size)
                clear hb2 HBB HBX b0 b1
                cases hd : deepN Ts 5 Ts[j + 1].nm with
                | true =>
                  have HR : Hid (teamsB Ts = false) := teams_no hlt (by rw [teamAt_eq hlt, hd]; simp)
                  go_wp2
                  go_ret
                  exact ⟨ret_bool HR.out.symm, HB2.out⟩
                | false =>
                  have HOK : Hid (∀ i, i < j + 1 + 1 → teamAt Ts i = true) := fun i hi => by
                    by_cases e : i = j + 1
                    · subst e; rw [teamAt_eq hlt, hd]; rw [HBE.out, hls]; simp [hn, hoe]
                    · exact HA.out i (by omega)
                  go_wp2
                  go_roundw
                  case rel => exact ⟨j + 1 + 1, by go_num, by omega, HB2.out, HOK.out⟩
                  case measure => simp [intOf]; omega
              | false =>
                go_wp2_with fail
                refine (teamPlace_any lo _ Ts Ts[j + 1].ov _ (HV.out.below HBB.out)).mono ?_
                rintro e w1 ⟨rfl, hb1⟩
                have HBX := hide (HBX.out.on hb1)
                have HBB : Hid (Below w.heap.size w w1) := HBB.out.trans (hb1.mono HBB.out.size)
                clear hb1 b0 b1
                have b0 : w1.cell? ⟨wr.heap.size, 0, none⟩ = some (.string Ts[j + 1].nm) := HBX.out.cell 0
                have b1 : w1.cell? ⟨wr.heap.size, 1, none⟩ = some (.string Ts[j + 1].ov) := HBX.out.cell 1
                by_cases hp : plT Ts Ts[j + 1].ov < Ts.length
                · have hht : hasT Ts Ts[j + 1].ov = true := by rw [hasT_eq]; exact decide_eq_true hp
                  rw [placeT_lt hp]
                  clear hp
                  generalize plT Ts Ts[j + 1].ov = pp
                  go_wp2_with fail
                  refine (tooDeep_any lo _ Ts Ts[j + 1].nm _ (HV.out.below HBB.out)).mono ?_
                  rintro e w2 ⟨rfl, hb2⟩
                  have HB2 : Hid (Below w.heap.size w w2) := HBB.out.trans (hb2.mono HBB.out.size)
                  clear hb2 HBB HBX b0 b1
                  cases hd : deepN Ts 5 Ts[j + 1].nm with
                  | true =>
                    have HR : Hid (teamsB Ts = false) := teams_no hlt (by rw [teamAt_eq hlt, hd]; simp)
                    go_wp2
                    go_ret
                    exact ⟨ret_bool HR.out.symm, HB2.out⟩
                  | false =>
                    have HOK : Hid (∀ i, i < j + 1 + 1 → teamAt Ts i = true) := fun i hi => by
                      by_cases e : i = j + 1
                      · subst e; rw [teamAt_eq hlt, hd]; rw [HBE.out, hls]; simp [hn, hoe, hht]
                      · exact HA.out i (by omega)
                    go_wp2
                    go_roundw
                    case rel => exact ⟨j + 1 + 1, by go_num, by omega, HB2.out, HOK.out⟩
                    case measure => simp [intOf]; omega
                · have hht : hasT Ts Ts[j + 1].ov = false := by rw [hasT_eq]; exact decide_eq_false hp
                  have HR : Hid (teamsB Ts = false) := teams_no hlt (by rw [teamAt_eq hlt, hht, hoe]; simp)
                  rw [placeT_ge hp]
                  clear hp
                  go_wp2
                  go_ret
                  exact ⟨ret_bool HR.out.symm, HBB.out⟩
      · have HR : Hid (teamsB Ts = true) := teams_yes H12.out (by omega) HA.out
        go_wp2
        go_ret
        exact ⟨ret_bool HR.out.symm, HB.out⟩

end Go.Proofs.Ytmaagbnjpdijnaa

