import Derived.Test.YtdeammfdkaomlaaGreatV11
namespace Go.Proofs.YtdeammfdkaomlaaGreat
open Go.RowKit Go.Deep

set_option maxRecDepth 20000 in
set_option maxHeartbeats 4000000 in
theorem specTeams_any (lo : Nat) (v : Value) (Ts : List Tm) (w : World) (hv : TmsAt lo w v Ts) :
    Calls Tryz.prog 92 #[v] w fun e w' => e = .returned (.bool (teamsB Ts)) ∧ Below w.heap.size w w' := by
  by_cases h12 : ¬ Ts.length ≤ 12
  · have HR := hide (teams_big h12)
    have hmx := hv.max
    unfold maxLen at hmx
    obtain ⟨a, cap, rfl⟩ := hv.form
    go_enter Tryz.func92, Tryz.ntmps92
    go_wp2
    go_ret
    exact ⟨ret_bool HR.out.symm, Below.refl _ _⟩
  replace h12 : Ts.length ≤ 12 := by omega
  by_cases hL : Ts = []
  · subst hL
    obtain ⟨a, cap, rfl⟩ := hv.form
    clear hv
    go_enter Tryz.func92, Tryz.ntmps92
    go_wp2
    go_loop [3] (fun i => i = .int .i64 0) (fun _ => 0)
    case atStart => rfl
    case round =>
      subst hrel
      go_wp2
      go_ret
      exact ⟨ret_bool (by rfl), Below.refl _ _⟩
  · have HV := hide hv
    obtain ⟨b, off, cap, rfl, hm, hbw, _, hc⟩ := hv.full hL
    clear hv hm
    have H12 := hide h12
    have h12i : decide ((12 : Int) < (Ts.length : Int)) = false := by simp; omega
    go_enter Tryz.func92, Tryz.ntmps92
    go_wp2
    go_loopw [3] (fun i wr => ∃ k : Nat, i = .int .i64 k ∧ k ≤ Ts.length ∧ Below w.heap.size w wr ∧ ∀ i, i < k → teamAt Ts i = true) (fun i _ => Ts.length - (intOf i).toNat)
    case atStart => exact ⟨0, rfl, by omega, Below.refl _ _, fun i h => by omega⟩
    case round =>
      obtain ⟨k, rfl, hk, hb, hall⟩ := hrel
      have HA := hide hall
      have HB := hide hb
      clear hall hb
      by_cases hlt : k < Ts.length
      · obtain ⟨hsz, hcell⟩ := hc k hlt
        have HSZ := hide hsz
        obtain ⟨c0, c1⟩ := hcell.below HB.out hbw
        clear hcell hsz
        have HFr : ∀ o n, Hid (TmsAt lo ((wr.alloc o).drewN n) (.slice (some ⟨b, off, none⟩) Ts.length cap) Ts) := fun o n => HV.out.below (below_drewN (HB.out.alloc HB.out.size _) _)
        cases hn : nameB Ts[k].nm with
        | false =>
          go_wp2
          go_quiet (first | (go_at_call 93; exact (nameOk_any _ _ HSZ.out.s0).mono fun _ _ h => ⟨h.1, _, h.2⟩) | (go_at_call 157; exact (l4Team_any lo _ Ts _ _ (HFr _ _).out).mono fun _ _ h => ⟨h.1, _, h.2⟩))
          go_wp2
          go_ret
          exact ⟨ret_bool (teams_no hlt (by rw [teamAt_eq hlt]; simp [hn])).symm, below_drewN (HB.out.alloc HB.out.size _) _⟩
        | true =>
          cases k with
          | zero =>
            have c0 : wr.cell? ⟨b, off, none⟩ = some (.string Ts[0].nm) := by simpa using c0
            have c1 : wr.cell? ⟨b, off + 1, none⟩ = some (.string Ts[0].ov) := by simpa using c1
            cases hoe : Ts[0].ov.toList.isEmpty with
            | true =>
              have HOK : Hid (deepN Ts 5 Ts[0].nm = false → ∀ i, i < 0 + 1 → teamAt Ts i = true) := fun h i hi => by
                by_cases e : i = 0
                · subst e; rw [teamAt_eq hlt, h]; simp [hn, hoe]
                · exact HA.out i (by omega)
              have HNO : Hid (deepN Ts 5 Ts[0].nm = true → teamsB Ts = false) := fun h => teams_no hlt (by rw [teamAt_eq hlt, h]; simp)
              have HNE : Hid (Ts[0].nm.toList.isEmpty = false) := empty_no (by
                have := hn
                unfold nameB at this
                rw [Bool.and_eq_true, inB_eq] at this
                have := this.1
                simp at this
                omega)
              go_wp2
              go_quiet (first | (go_at_call 93; exact (nameOk_any _ _ HSZ.out.s0).mono fun _ _ h => ⟨h.1, _, h.2⟩) | (go_at_call 157; exact (l4Team_any lo _ Ts _ _ (HFr _ _).out).mono fun _ _ h => ⟨h.1, _, h.2⟩))
              try simp only [hn]
              try simp only [hoe]
              go_wp2
              go_loop [5, 6] (fun x n => ∃ (q : Nat) (a' : ByteArray), x = .string a' ∧ n = .int .i64 q ∧ q ≤ 5 ∧ ((a'.toList.isEmpty = true ∧ deepN Ts 5 Ts[0].nm = false) ∨ (a'.toList.isEmpty = false ∧ deepN Ts 5 Ts[0].nm = deepN Ts (5 - q) a'))) (fun _ n => 5 - (intOf n).toNat)
              case atStart => exact ⟨0, _, rfl, rfl, by omega, Or.inr ⟨HNE.out, rfl⟩⟩
              case round =>
                obtain ⟨q, a', rfl, rfl, hq, hqq⟩ := hrel
                rcases hqq with ⟨hae, hd⟩ | ⟨hae, hd⟩
                · have HD := hide hd
                  clear hd
                  by_cases h5 : q ≤ 4
                  all_goals
                    go_wp2
                    go_roundw
                    case rel => first | exact ⟨0 + 1, by go_num, by omega, below_drewN (HB.out.alloc HB.out.size _) _, HOK.out HD.out⟩ | ((repeat apply Exists.intro); exact ⟨⟨0 + 1, by go_num, by omega, below_drewN (HB.out.alloc HB.out.size _) _, HOK.out HD.out⟩, rfl⟩)
                    case measure => simp [intOf]; omega
                · have HD := hide hd
                  clear hd
                  by_cases h5 : q ≤ 4
                  · have HS : Hid (deepN Ts 5 Ts[0].nm = if (ovB Ts a').toList.isEmpty then false else deepN Ts (5 - (q + 1)) (ovB Ts a')) := by
                      unfold Hid
                      rw [HD.out, show 5 - q = (5 - (q + 1)) + 1 from by omega]
                      rfl
                    clear HD
                    go_wp2_with fail
                    refine (l4Over_any lo _ Ts a' _ (HFr _ _).out).mono ?_
                    rintro e w1 ⟨rfl, rfl⟩
                    go_wp2
                    go_round
                    case rel =>
                      have hnx : ((ovB Ts a').toList.isEmpty = true ∧ deepN Ts 5 Ts[0].nm = false) ∨ ((ovB Ts a').toList.isEmpty = false ∧ deepN Ts 5 Ts[0].nm = deepN Ts (5 - (q + 1)) (ovB Ts a')) := by
                        cases he : (ovB Ts a').toList.isEmpty with
                        | true => exact Or.inl ⟨rfl, by rw [HS.out, if_pos he]⟩
                        | false => exact Or.inr ⟨rfl, by rw [HS.out, if_neg (by simp [he])]⟩
                      first
                        | exact ⟨q + 1, _, rfl, by go_num, by omega, hnx⟩
                        | (refine ⟨trivial, ?_⟩
                           (repeat apply Exists.intro)
                           exact ⟨⟨q + 1, _, rfl, by go_num, by omega, hnx⟩, rfl⟩)
                        | ((repeat apply Exists.intro)
                           exact ⟨⟨q + 1, _, rfl, by go_num, by omega, hnx⟩, rfl⟩)
                    case measure => simp [intOf]; omega
                  · have HR : Hid (teamsB Ts = false) := HNO.out (by rw [HD.out, show 5 - q = 0 from by omega]; rfl)
                    go_wp2
                    go_ret
                    exact ⟨ret_bool HR.out.symm, below_drewN (HB.out.alloc HB.out.size _) _⟩
            | false =>
              cases hht : hasT Ts Ts[0].ov with
              | false =>
                go_wp2
                go_quiet (first | (go_at_call 93; exact (nameOk_any _ _ HSZ.out.s0).mono fun _ _ h => ⟨h.1, _, h.2⟩) | (go_at_call 157; exact (l4Team_any lo _ Ts _ _ (HFr _ _).out).mono fun _ _ h => ⟨h.1, _, h.2⟩))
                go_wp2
                go_ret
                exact ⟨ret_bool (teams_no hlt (by rw [teamAt_eq hlt]; simp [hoe, hht])).symm, below_drewN (HB.out.alloc HB.out.size _) _⟩
              | true =>
                have HOK : Hid (deepN Ts 5 Ts[0].nm = false → ∀ i, i < 0 + 1 → teamAt Ts i = true) := fun h i hi => by
                  by_cases e : i = 0
                  · subst e; rw [teamAt_eq hlt, h]; simp [hn, hoe, hht]
                  · exact HA.out i (by omega)
                have HNO : Hid (deepN Ts 5 Ts[0].nm = true → teamsB Ts = false) := fun h => teams_no hlt (by rw [teamAt_eq hlt, h]; simp)
                have HNE : Hid (Ts[0].nm.toList.isEmpty = false) := empty_no (by
                  have := hn
                  unfold nameB at this
                  rw [Bool.and_eq_true, inB_eq] at this
                  have := this.1
                  simp at this
                  omega)
                go_wp2
                go_quiet (first | (go_at_call 93; exact (nameOk_any _ _ HSZ.out.s0).mono fun _ _ h => ⟨h.1, _, h.2⟩) | (go_at_call 157; exact (l4Team_any lo _ Ts _ _ (HFr _ _).out).mono fun _ _ h => ⟨h.1, _, h.2⟩))
                try simp only [hn]
                try simp only [hoe]
                try simp only [hht]
                go_wp2
                go_loop [5, 6] (fun x n => ∃ (q : Nat) (a' : ByteArray), x = .string a' ∧ n = .int .i64 q ∧ q ≤ 5 ∧ ((a'.toList.isEmpty = true ∧ deepN Ts 5 Ts[0].nm = false) ∨ (a'.toList.isEmpty = false ∧ deepN Ts 5 Ts[0].nm = deepN Ts (5 - q) a'))) (fun _ n => 5 - (intOf n).toNat)
                case atStart => exact ⟨0, _, rfl, rfl, by omega, Or.inr ⟨HNE.out, rfl⟩⟩
                case round =>
                  obtain ⟨q, a', rfl, rfl, hq, hqq⟩ := hrel
                  rcases hqq with ⟨hae, hd⟩ | ⟨hae, hd⟩
                  · have HD := hide hd
                    clear hd
                    by_cases h5 : q ≤ 4
                    all_goals
                      go_wp2
                      go_roundw
                      case rel => first | exact ⟨0 + 1, by go_num, by omega, below_drewN (HB.out.alloc HB.out.size _) _, HOK.out HD.out⟩ | ((repeat apply Exists.intro); exact ⟨⟨0 + 1, by go_num, by omega, below_drewN (HB.out.alloc HB.out.size _) _, HOK.out HD.out⟩, rfl⟩)
                      case measure => simp [intOf]; omega
                  · have HD := hide hd
                    clear hd
                    by_cases h5 : q ≤ 4
                    · have HS : Hid (deepN Ts 5 Ts[0].nm = if (ovB Ts a').toList.isEmpty then false else deepN Ts (5 - (q + 1)) (ovB Ts a')) := by
                        unfold Hid
                        rw [HD.out, show 5 - q = (5 - (q + 1)) + 1 from by omega]
                        rfl
                      clear HD
                      go_wp2_with fail
                      refine (l4Over_any lo _ Ts a' _ (HFr _ _).out).mono ?_
                      rintro e w1 ⟨rfl, rfl⟩
                      go_wp2
                      go_round
                      case rel =>
                        have hnx : ((ovB Ts a').toList.isEmpty = true ∧ deepN Ts 5 Ts[0].nm = false) ∨ ((ovB Ts a').toList.isEmpty = false ∧ deepN Ts 5 Ts[0].nm = deepN Ts (5 - (q + 1)) (ovB Ts a')) := by
                          cases he : (ovB Ts a').toList.isEmpty with
                          | true => exact Or.inl ⟨rfl, by rw [HS.out, if_pos he]⟩
                          | false => exact Or.inr ⟨rfl, by rw [HS.out, if_neg (by simp [he])]⟩
                        first
                          | exact ⟨q + 1, _, rfl, by go_num, by omega, hnx⟩
                          | (refine ⟨trivial, ?_⟩
                             (repeat apply Exists.intro)
                             exact ⟨⟨q + 1, _, rfl, by go_num, by omega, hnx⟩, rfl⟩)
                          | ((repeat apply Exists.intro)
                             exact ⟨⟨q + 1, _, rfl, by go_num, by omega, hnx⟩, rfl⟩)
                      case measure => simp [intOf]; omega
                    · have HR : Hid (teamsB Ts = false) := HNO.out (by rw [HD.out, show 5 - q = 0 from by omega]; rfl)
                      go_wp2
                      go_ret
                      exact ⟨ret_bool HR.out.symm, below_drewN (HB.out.alloc HB.out.size _) _⟩
          | succ j =>
            have HBE : Hid (((Ts[j + 1 - 1]?.map Tm.nm).getD ⟨#[]⟩) = Ts[j].nm) := before_eq hlt
            have hcj : wr.cell? ⟨b, off + j * 2, none⟩ = some (.string Ts[j].nm) := by rw [HB.out.cell (p := ⟨b, _, none⟩) hbw]; exact (hc j (by omega)).2.c0
            have hjw : IntKind.i64.wrap (j : Int) = j := by rw [IntKind.wrap_i64]; omega
            have hjl : j < Ts.length := by omega
            have hdl : decide ((j : Int) + 1 < (Ts.length : Int)) = true := by simp; omega
            have hbo : b < wr.heap.size := Nat.lt_of_lt_of_le hbw HB.out.size
            have cj2 : ∀ o, (wr.alloc o).cell? ⟨b, off + j * 2, none⟩ = some (.string Ts[j].nm) := fun o => by rw [((Below.refl wr.heap.size wr).alloc (Nat.le_refl _) o).cell (p := ⟨b, _, none⟩) hbo]; exact hcj
            have cj3 : ∀ o n, ((wr.alloc o).drewN n).cell? ⟨b, off + j * 2, none⟩ = some (.string Ts[j].nm) := fun o n => cj2 o
            cases hls : Op.bytesLess Ts[j].nm.toList Ts[j + 1].nm.toList with
            | false =>
              go_wp2
              go_quiet (first | (go_at_call 93; exact (nameOk_any _ _ HSZ.out.s0).mono fun _ _ h => ⟨h.1, _, h.2⟩) | (go_at_call 157; exact (l4Team_any lo _ Ts _ _ (HFr _ _).out).mono fun _ _ h => ⟨h.1, _, h.2⟩))
              go_wp2
              go_ret
              exact ⟨ret_bool (teams_no hlt (by rw [teamAt_eq hlt]; rw [HBE.out, hls]; simp)).symm, below_drewN (HB.out.alloc HB.out.size _) _⟩
            | true =>
              cases hoe : Ts[j + 1].ov.toList.isEmpty with
              | true =>
                have HOK : Hid (deepN Ts 5 Ts[j + 1].nm = false → ∀ i, i < j + 1 + 1 → teamAt Ts i = true) := fun h i hi => by
                  by_cases e : i = j + 1
                  · subst e; rw [teamAt_eq hlt, h]; rw [HBE.out, hls]; simp [hn, hoe]
                  · exact HA.out i (by omega)
                have HNO : Hid (deepN Ts 5 Ts[j + 1].nm = true → teamsB Ts = false) := fun h => teams_no hlt (by rw [teamAt_eq hlt, h]; simp)
                have HNE : Hid (Ts[j + 1].nm.toList.isEmpty = false) := empty_no (by
                  have := hn
                  unfold nameB at this
                  rw [Bool.and_eq_true, inB_eq] at this
                  have := this.1
                  simp at this
                  omega)
                go_wp2
                go_quiet (first | (go_at_call 93; exact (nameOk_any _ _ HSZ.out.s0).mono fun _ _ h => ⟨h.1, _, h.2⟩) | (go_at_call 157; exact (l4Team_any lo _ Ts _ _ (HFr _ _).out).mono fun _ _ h => ⟨h.1, _, h.2⟩))
                try simp only [hn]
                try simp only [hoe]
                try simp only [hls]
                go_wp2
                go_loop [5, 6] (fun x n => ∃ (q : Nat) (a' : ByteArray), x = .string a' ∧ n = .int .i64 q ∧ q ≤ 5 ∧ ((a'.toList.isEmpty = true ∧ deepN Ts 5 Ts[j + 1].nm = false) ∨ (a'.toList.isEmpty = false ∧ deepN Ts 5 Ts[j + 1].nm = deepN Ts (5 - q) a'))) (fun _ n => 5 - (intOf n).toNat)
                case atStart => exact ⟨0, _, rfl, rfl, by omega, Or.inr ⟨HNE.out, rfl⟩⟩
                case round =>
                  obtain ⟨q, a', rfl, rfl, hq, hqq⟩ := hrel
                  rcases hqq with ⟨hae, hd⟩ | ⟨hae, hd⟩
                  · have HD := hide hd
                    clear hd
                    by_cases h5 : q ≤ 4
                    all_goals
                      go_wp2
                      go_roundw
                      case rel => first | exact ⟨j + 1 + 1, by go_num, by omega, below_drewN (HB.out.alloc HB.out.size _) _, HOK.out HD.out⟩ | ((repeat apply Exists.intro); exact ⟨⟨j + 1 + 1, by go_num, by omega, below_drewN (HB.out.alloc HB.out.size _) _, HOK.out HD.out⟩, rfl⟩)
                      case measure => simp [intOf]; omega
                  · have HD := hide hd
                    clear hd
                    by_cases h5 : q ≤ 4
                    · have HS : Hid (deepN Ts 5 Ts[j + 1].nm = if (ovB Ts a').toList.isEmpty then false else deepN Ts (5 - (q + 1)) (ovB Ts a')) := by
                        unfold Hid
                        rw [HD.out, show 5 - q = (5 - (q + 1)) + 1 from by omega]
                        rfl
                      clear HD
                      go_wp2_with fail
                      refine (l4Over_any lo _ Ts a' _ (HFr _ _).out).mono ?_
                      rintro e w1 ⟨rfl, rfl⟩
                      go_wp2
                      go_round
                      case rel =>
                        have hnx : ((ovB Ts a').toList.isEmpty = true ∧ deepN Ts 5 Ts[j + 1].nm = false) ∨ ((ovB Ts a').toList.isEmpty = false ∧ deepN Ts 5 Ts[j + 1].nm = deepN Ts (5 - (q + 1)) (ovB Ts a')) := by
                          cases he : (ovB Ts a').toList.isEmpty with
                          | true => exact Or.inl ⟨rfl, by rw [HS.out, if_pos he]⟩
                          | false => exact Or.inr ⟨rfl, by rw [HS.out, if_neg (by simp [he])]⟩
                        first
                          | exact ⟨q + 1, _, rfl, by go_num, by omega, hnx⟩
                          | (refine ⟨trivial, ?_⟩
                             (repeat apply Exists.intro)
                             exact ⟨⟨q + 1, _, rfl, by go_num, by omega, hnx⟩, rfl⟩)
                          | ((repeat apply Exists.intro)
                             exact ⟨⟨q + 1, _, rfl, by go_num, by omega, hnx⟩, rfl⟩)
                      case measure => simp [intOf]; omega
                    · have HR : Hid (teamsB Ts = false) := HNO.out (by rw [HD.out, show 5 - q = 0 from by omega]; rfl)
                      go_wp2
                      go_ret
                      exact ⟨ret_bool HR.out.symm, below_drewN (HB.out.alloc HB.out.size _) _⟩
              | false =>
                cases hht : hasT Ts Ts[j + 1].ov with
                | false =>
                  go_wp2
                  go_quiet (first | (go_at_call 93; exact (nameOk_any _ _ HSZ.out.s0).mono fun _ _ h => ⟨h.1, _, h.2⟩) | (go_at_call 157; exact (l4Team_any lo _ Ts _ _ (HFr _ _).out).mono fun _ _ h => ⟨h.1, _, h.2⟩))
                  go_wp2
                  go_ret
                  exact ⟨ret_bool (teams_no hlt (by rw [teamAt_eq hlt]; simp [hoe, hht])).symm, below_drewN (HB.out.alloc HB.out.size _) _⟩
                | true =>
                  have HOK : Hid (deepN Ts 5 Ts[j + 1].nm = false → ∀ i, i < j + 1 + 1 → teamAt Ts i = true) := fun h i hi => by
                    by_cases e : i = j + 1
                    · subst e; rw [teamAt_eq hlt, h]; rw [HBE.out, hls]; simp [hn, hoe, hht]
                    · exact HA.out i (by omega)
                  have HNO : Hid (deepN Ts 5 Ts[j + 1].nm = true → teamsB Ts = false) := fun h => teams_no hlt (by rw [teamAt_eq hlt, h]; simp)
                  have HNE : Hid (Ts[j + 1].nm.toList.isEmpty = false) := empty_no (by
                    have := hn
                    unfold nameB at this
                    rw [Bool.and_eq_true, inB_eq] at this
                    have := this.1
                    simp at this
                    omega)
                  go_wp2
                  go_quiet (first | (go_at_call 93; exact (nameOk_any _ _ HSZ.out.s0).mono fun _ _ h => ⟨h.1, _, h.2⟩) | (go_at_call 157; exact (l4Team_any lo _ Ts _ _ (HFr _ _).out).mono fun _ _ h => ⟨h.1, _, h.2⟩))
                  try simp only [hn]
                  try simp only [hoe]
                  try simp only [hht]
                  try simp only [hls]
                  go_wp2
                  go_loop [5, 6] (fun x n => ∃ (q : Nat) (a' : ByteArray), x = .string a' ∧ n = .int .i64 q ∧ q ≤ 5 ∧ ((a'.toList.isEmpty = true ∧ deepN Ts 5 Ts[j + 1].nm = false) ∨ (a'.toList.isEmpty = false ∧ deepN Ts 5 Ts[j + 1].nm = deepN Ts (5 - q) a'))) (fun _ n => 5 - (intOf n).toNat)
                  case atStart => exact ⟨0, _, rfl, rfl, by omega, Or.inr ⟨HNE.out, rfl⟩⟩
                  case round =>
                    obtain ⟨q, a', rfl, rfl, hq, hqq⟩ := hrel
                    rcases hqq with ⟨hae, hd⟩ | ⟨hae, hd⟩
                    · have HD := hide hd
                      clear hd
                      by_cases h5 : q ≤ 4
                      all_goals
                        go_wp2
                        go_roundw
                        case rel => first | exact ⟨j + 1 + 1, by go_num, by omega, below_drewN (HB.out.alloc HB.out.size _) _, HOK.out HD.out⟩ | ((repeat apply Exists.intro); exact ⟨⟨j + 1 + 1, by go_num, by omega, below_drewN (HB.out.alloc HB.out.size _) _, HOK.out HD.out⟩, rfl⟩)
                        case measure => simp [intOf]; omega
                    · have HD := hide hd
                      clear hd
                      by_cases h5 : q ≤ 4
                      · have HS : Hid (deepN Ts 5 Ts[j + 1].nm = if (ovB Ts a').toList.isEmpty then false else deepN Ts (5 - (q + 1)) (ovB Ts a')) := by
                          unfold Hid
                          rw [HD.out, show 5 - q = (5 - (q + 1)) + 1 from by omega]
                          rfl
                        clear HD
                        go_wp2_with fail
                        refine (l4Over_any lo _ Ts a' _ (HFr _ _).out).mono ?_
                        rintro e w1 ⟨rfl, rfl⟩
                        go_wp2
                        go_round
                        case rel =>
                          have hnx : ((ovB Ts a').toList.isEmpty = true ∧ deepN Ts 5 Ts[j + 1].nm = false) ∨ ((ovB Ts a').toList.isEmpty = false ∧ deepN Ts 5 Ts[j + 1].nm = deepN Ts (5 - (q + 1)) (ovB Ts a')) := by
                            cases he : (ovB Ts a').toList.isEmpty with
                            | true => exact Or.inl ⟨rfl, by rw [HS.out, if_pos he]⟩
                            | false => exact Or.inr ⟨rfl, by rw [HS.out, if_neg (by simp [he])]⟩
                          first
                            | exact ⟨q + 1, _, rfl, by go_num, by omega, hnx⟩
                            | (refine ⟨trivial, ?_⟩
                               (repeat apply Exists.intro)
                               exact ⟨⟨q + 1, _, rfl, by go_num, by omega, hnx⟩, rfl⟩)
                            | ((repeat apply Exists.intro)
                               exact ⟨⟨q + 1, _, rfl, by go_num, by omega, hnx⟩, rfl⟩)
                        case measure => simp [intOf]; omega
                      · have HR : Hid (teamsB Ts = false) := HNO.out (by rw [HD.out, show 5 - q = 0 from by omega]; rfl)
                        go_wp2
                        go_ret
                        exact ⟨ret_bool HR.out.symm, below_drewN (HB.out.alloc HB.out.size _) _⟩
      · have HR : Hid (teamsB Ts = true) := teams_yes H12.out (by omega) HA.out
        go_wp2
        go_ret
        exact ⟨ret_bool HR.out.symm, HB.out⟩

end Go.Proofs.YtdeammfdkaomlaaGreat
