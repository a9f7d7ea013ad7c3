import Derived.Test.YtmaagbnjpdijnaaVTA
import Derived.Test.YtmaagbnjpdijnaaVA1
import Derived.Test.YtmaagbnjpdijnaaVDA
namespace Go.Proofs.Ytmaagbnjpdijnaa
open Go.RowKit Go.Deep

set_option maxHeartbeats 1000000 in
theorem l4Over_any (lo : Nat) (v : Value) (Ts : List Tm) (s : ByteArray) (w : World) (hv : TmsAt lo w v Ts) :
    Calls Try.prog 75 #[v, .string s] w fun e w' => e = .returned (.string (ovB Ts s)) ∧ w' = w := by
  by_cases hL : Ts = []
  · subst hL
    obtain ⟨a, cap, rfl⟩ := hv.form
    clear hv
    go_enter Try.func75, Try.ntmps75
    go_wp2
    go_loop [5] (fun i => i = .int .i64 0) (fun _ => 0)
    case atStart => rfl
    case round =>
      subst hrel
      go_wp2
      go_ret
      exact ⟨rfl, rfl⟩
  · obtain ⟨b, off, cap, rfl, hm, hbw, _, hc⟩ := hv.full hL
    clear hv
    unfold maxLen at hm
    go_enter Try.func75, Try.ntmps75
    go_wp2
    go_loop [5] (fun i => ∃ k : Nat, i = .int .i64 k ∧ k ≤ Ts.length ∧ ∀ j (hj : j < Ts.length), j < k → (Ts[j].nm.toList == s.toList) = false) (fun i => Ts.length - (intOf i).toNat)
    case atStart => exact ⟨0, rfl, by omega, fun j _ h => by omega⟩
    case round =>
      obtain ⟨k, rfl, hk, hall⟩ := hrel
      have HA := hide hall
      clear hall
      by_cases hlt : k < Ts.length
      · obtain ⟨_, hcell⟩ := hc k hlt
        obtain ⟨c0, c1⟩ := hcell
        cases he : (Ts[k].nm.toList == s.toList) with
        | true =>
          go_wp2
          go_ret
          exact ⟨ret_str (ovB_at hlt he HA.out).symm, rfl⟩
        | false =>
          go_wp2
          go_round
          case rel => exact ⟨k + 1, by go_num, by omega, fun j hj h => by
                        by_cases e : j = k
                        · subst e; exact he
                        · exact HA.out j hj (by omega)⟩
          case measure => simp [intOf]; omega
      · go_wp2
        go_ret
        exact ⟨ret_str (ovB_no fun j hj => HA.out j hj (by omega)).symm, rfl⟩

set_option maxHeartbeats 1000000 in
theorem l4Team_any (lo : Nat) (v : Value) (Ts : List Tm) (s : ByteArray) (w : World) (hv : TmsAt lo w v Ts) :
    Calls Try.prog 74 #[v, .string s] w fun e w' => e = .returned (.bool (hasT Ts s)) ∧ w' = w := by
  by_cases hL : Ts = []
  · subst hL
    obtain ⟨a, cap, rfl⟩ := hv.form
    clear hv
    go_enter Try.func74, Try.ntmps74
    go_wp2
    go_loop [5] (fun i => i = .int .i64 0) (fun _ => 0)
    case atStart => rfl
    case round =>
      subst hrel
      go_wp2
      go_ret
      exact ⟨rfl, rfl⟩
  · obtain ⟨b, off, cap, rfl, hm, hbw, _, hc⟩ := hv.full hL
    clear hv
    unfold maxLen at hm
    go_enter Try.func74, Try.ntmps74
    go_wp2
    go_loop [5] (fun i => ∃ k : Nat, i = .int .i64 k ∧ k ≤ Ts.length ∧ ∀ j (hj : j < Ts.length), j < k → (Ts[j].nm.toList == s.toList) = false) (fun i => Ts.length - (intOf i).toNat)
    case atStart => exact ⟨0, rfl, by omega, fun j _ h => by omega⟩
    case round =>
      obtain ⟨k, rfl, hk, hall⟩ := hrel
      have HA := hide hall
      clear hall
      by_cases hlt : k < Ts.length
      · obtain ⟨_, hcell⟩ := hc k hlt
        obtain ⟨c0, c1⟩ := hcell
        cases he : (Ts[k].nm.toList == s.toList) with
        | true =>
          go_wp2
          go_ret
          exact ⟨ret_bool (hasT_stop hlt he).symm, rfl⟩
        | false =>
          go_wp2
          go_round
          case rel => exact ⟨k + 1, by go_num, by omega, fun j hj h => by
                        by_cases e : j = k
                        · subst e; exact he
                        · exact HA.out j hj (by omega)⟩
          case measure => simp [intOf]; omega
      · go_wp2
        go_ret
        exact ⟨ret_bool (hasT_no fun j hj => HA.out j hj (by omega)).symm, rfl⟩

section
variable (nm ov : ByteArray) (w : World)
set_option maxHeartbeats 400000 in
theorem closT_any (s : ByteArray) (B : Nat) (hB : B < w.heap.size) (hs : w.cell? ⟨B, 0, none⟩ = some (.string s)) :
    Calls Try.prog 112 #[.agg #[.string nm, .string ov], .pointer (some ⟨B, 0, none⟩)] w
      fun e w' => e = .returned (.bool (nm.toList == s.toList)) ∧ Below w.heap.size w w' := by
  go_enter Try.func112, Try.ntmps112
  go_wp2
  go_ret
  exact ⟨rfl, (Below.refl _ _).alloc (Nat.le_refl _) _⟩
end

set_option maxHeartbeats 1000000 in
theorem indexFuncT_any (lo : Nat) (v : Value) (Ts : List Tm) (s : ByteArray) (B : Nat) (w : World) (hv : TmsAt lo w v Ts) (hB : B < w.heap.size) (hs : w.cell? ⟨B, 0, none⟩ = some (.string s)) :
    Calls Try.prog 111 #[v, .func (.func 112) #[] #[.pointer (some ⟨B, 0, none⟩)]] w fun e w' => e = .returned (.int .i64 (placeT Ts s)) ∧ Below w.heap.size w w' := by
  by_cases hL : Ts = []
  · subst hL
    obtain ⟨a, cap, rfl⟩ := hv.form
    clear hv
    go_enter Try.func111, Try.ntmps111
    go_wp2
    go_loop [8] (fun i => i = .int .i64 0) (fun _ => 0)
    case atStart => rfl
    case round =>
      subst hrel
      go_wp2
      go_ret
      exact ⟨rfl, Below.refl _ _⟩
  · obtain ⟨b, off, cap, rfl, hm, hbw, _, hc⟩ := hv.full hL
    clear hv
    unfold maxLen at hm
    go_enter Try.func111, Try.ntmps111
    go_wp2
    go_loopw [8] (fun i wr => ∃ k : Nat, i = .int .i64 k ∧ k ≤ Ts.length ∧ Below w.heap.size w wr ∧ ∀ j (hj : j < Ts.length), j < k → (Ts[j].nm.toList == s.toList) = false) (fun i _ => Ts.length - (intOf i).toNat)
    case atStart => exact ⟨0, rfl, by omega, Below.refl _ _, fun j _ h => by omega⟩
    case round =>
      obtain ⟨k, rfl, hk, hb, hall⟩ := hrel
      have HA := hide hall
      have HB := hide hb
      clear hall hb
      by_cases hlt : k < Ts.length
      · obtain ⟨_, hcell⟩ := hc k hlt
        obtain ⟨c0, c1⟩ := hcell.below HB.out hbw
        clear hcell
        go_wp2_with fail
        refine (closT_any _ _ _ s B (Nat.lt_of_lt_of_le hB HB.out.size) (by rw [HB.out.cell (p := ⟨B, 0, none⟩) hB]; exact hs)).mono ?_
        rintro e w1 ⟨rfl, hb1⟩
        have HB1 : Hid (Below w.heap.size w w1) := HB.out.trans (hb1.mono HB.out.size)
        clear hb1 c0 c1
        cases he : (Ts[k].nm.toList == s.toList) with
        | true =>
          go_wp2
          go_ret
          exact ⟨by rw [placeT_yes hlt he HA.out]; rfl, HB1.out⟩
        | false =>
          go_wp2
          go_roundw
          case rel => exact ⟨k + 1, by go_num, by omega, HB1.out, fun j hj h => by
                        by_cases e : j = k
                        · subst e; exact he
                        · exact HA.out j hj (by omega)⟩
          case measure => simp [intOf]; omega
      · go_wp2
        go_ret
        exact ⟨by rw [placeT_no fun j hj => HA.out j hj (by omega)]; rfl, HB.out⟩

set_option maxHeartbeats 400000 in
theorem teamPlace_any (lo : Nat) (v : Value) (Ts : List Tm) (s : ByteArray) (w : World) (hv : TmsAt lo w v Ts) :
    Calls Try.prog 78 #[v, .string s] w fun e w' => e = .returned (.int .i64 (placeT Ts s)) ∧ Below w.heap.size w w' := by
  have HV := hide hv
  obtain ⟨a, cap, rfl⟩ := hv.form
  clear hv
  have HW : ∀ o, Hid (Below w.heap.size w (w.alloc o)) := fun o => one_al _ _
  go_enter Try.func78, Try.ntmps78
  go_wp2_with fail
  refine (indexFuncT_any lo _ Ts s _ _ (HV.out.below (HW _).out) (by simp) (by simp)).mono ?_
  rintro e w1 ⟨rfl, hb⟩
  have HB : Hid (Below w.heap.size w w1) := (HW _).out.trans (hb.mono (by simp))
  clear hb
  go_wp2
  go_ret
  exact ⟨rfl, HB.out⟩

set_option maxHeartbeats 400000 in
theorem overOf_any (lo : Nat) (v : Value) (Ts : List Tm) (s : ByteArray) (w : World) (hv : TmsAt lo w v Ts) :
    Calls Try.prog 113 #[v, .string s] w fun e w' => e = .returned (.string (ovB Ts s)) ∧ Below w.heap.size w w' := by
  have HV := hide hv
  obtain ⟨a, cap, rfl⟩ := hv.form
  clear hv
  go_enter Try.func113, Try.ntmps113
  go_wp2_with fail
  refine (teamPlace_any lo _ Ts s _ HV.out).mono ?_
  rintro e w1 ⟨rfl, hb⟩
  have HB := hide hb
  clear hb
  by_cases hp : plT Ts s < Ts.length
  · rw [placeT_lt hp]
    have hmx := HV.out.max
    obtain ⟨b, off, rfl, hbw, hc⟩ := HV.out.full' (by omega)
    obtain ⟨_, hcell⟩ := hc _ hp
    obtain ⟨c0, c1⟩ := hcell.below HB.out hbw
    have HO := hide (ovB_lt hp)
    unfold maxLen at hmx
    clear hc hcell
    generalize plT Ts s = p at *
    go_wp2
    go_ret
    exact ⟨ret_str HO.out.symm, HB.out⟩
  · rw [placeT_ge hp]
    have HO := hide (ovB_ge hp)
    go_wp2
    go_ret
    exact ⟨ret_str HO.out.symm, HB.out⟩

set_option maxHeartbeats 1000000 in
theorem tooDeep_any (lo : Nat) (v : Value) (Ts : List Tm) (a : ByteArray) (w : World) (hv : TmsAt lo w v Ts) :
    Calls Try.prog 79 #[v, .string a] w fun e w' => e = .returned (.bool (deepN Ts 5 a)) ∧ Below w.heap.size w w' := by
  have HV := hide hv
  obtain ⟨ta, tcap, rfl⟩ := hv.form
  clear hv
  go_enter Try.func79, Try.ntmps79
  go_wp2
  go_loopw [1, 5] (fun x n wr => ∃ (k : Nat) (a' : ByteArray), x = .string a' ∧ n = .int .i64 k ∧ k ≤ 5 ∧ deepN Ts 5 a = deepN Ts (5 - k) a' ∧ Below w.heap.size w wr) (fun _ n _ => 5 - (intOf n).toNat)
  case atStart => exact ⟨0, a, rfl, rfl, by omega, rfl, Below.refl _ _⟩
  case round =>
    obtain ⟨k, a', rfl, rfl, hk, hu, hb⟩ := hrel
    have HU := hide hu
    have HB := hide hb
    clear hu hb
    by_cases hlt : k < 5
    · have HS : Hid (deepN Ts 5 a = if (ovB Ts a').toList.isEmpty then false else deepN Ts (5 - (k + 1)) (ovB Ts a')) := by
        unfold Hid
        rw [HU.out, show 5 - k = (5 - (k + 1)) + 1 from by omega]
        rfl
      clear HU
      go_wp2_with fail
      refine (overOf_any lo _ Ts a' _ (HV.out.below HB.out)).mono ?_
      rintro e w1 ⟨rfl, hb1⟩
      have HB1 : Hid (Below w.heap.size w w1) := HB.out.trans (hb1.mono HB.out.size)
      clear hb1 HB
      cases he : (ovB Ts a').toList.isEmpty with
      | true =>
        have HR : Hid (deepN Ts 5 a = false) := by unfold Hid; rw [HS.out, if_pos he]
        go_wp2
        go_ret
        exact ⟨ret_bool HR.out.symm, HB1.out⟩
      | false =>
        have HR : Hid (deepN Ts 5 a = deepN Ts (5 - (k + 1)) (ovB Ts a')) := by unfold Hid; rw [HS.out, if_neg (by simp [he])]
        go_wp2
        go_roundw
        case rel => exact ⟨k + 1, _, rfl, by go_num, by omega, HR.out, HB1.out⟩
        case measure => simp [intOf]; omega
    · have HR : Hid (deepN Ts 5 a = true) := by unfold Hid; rw [HU.out, show 5 - k = 0 from by omega]; rfl
      go_wp2
      go_ret
      exact ⟨ret_bool HR.out.symm, HB.out⟩
end Go.Proofs.Ytmaagbnjpdijnaa

namespace Go.Proofs.Ytmaagbnjpdijnaa
open Go.RowKit Go.Deep

set_option maxRecDepth 20000 in
set_option maxHeartbeats 4000000 in
theorem specTeams_any (lo : Nat) (v : Value) (Ts : List Tm) (w : World) (hv : TmsAt lo w v Ts) :
    Calls Try.prog 43 #[v] w fun e w' => e = .returned (.bool (teamsB Ts)) ∧ Below w.heap.size w w' := by
  by_cases h12 : ¬ Ts.length ≤ 12
  · have HR := hide (teams_big h12)
    have hmx := hv.max
    unfold maxLen at hmx
    obtain ⟨a, cap, rfl⟩ := hv.form
    go_enter Try.func43, Try.ntmps43
    go_wp2
    go_ret
    exact ⟨ret_bool HR.out.symm, Below.refl _ _⟩
  replace h12 : Ts.length ≤ 12 := by omega
  by_cases hL : Ts = []
  · subst hL
    obtain ⟨a, cap, rfl⟩ := hv.form
    clear hv
    go_enter Try.func43, Try.ntmps43
    go_wp2
    go_loop [3] (fun i => i = .int .i64 0) (fun _ => 0)
    case atStart => rfl
    case round =>
      subst hrel
      go_wp2
      go_ret
      exact ⟨ret_bool (by rfl), Below.refl _ _⟩
  · have HV := hide hv
    obtain ⟨b, off, cap, rfl, hm, hbw, _, hc⟩ := hv.full hL
    clear hv hm
    have H12 := hide h12
    have h12i : decide ((12 : Int) < (Ts.length : Int)) = false := by simp; omega
    go_enter Try.func43, Try.ntmps43
    go_wp2
    go_loopw [3] (fun i wr => ∃ k : Nat, i = .int .i64 k ∧ k ≤ Ts.length ∧ Below w.heap.size w wr ∧ ∀ i, i < k → teamAt Ts i = true) (fun i _ => Ts.length - (intOf i).toNat)
    case atStart => exact ⟨0, rfl, by omega, Below.refl _ _, fun i h => by omega⟩
    case round =>
      obtain ⟨k, rfl, hk, hb, hall⟩ := hrel
      have HA := hide hall
      have HB := hide hb
      clear hall hb
      by_cases hlt : k < Ts.length
      · obtain ⟨hsz, hcell⟩ := hc k hlt
        have HSZ := hide hsz
        obtain ⟨c0, c1⟩ := hcell.below HB.out hbw
        clear hcell hsz
        have HFr : ∀ o n, Hid (TmsAt lo ((wr.alloc o).drewN n) (.slice (some ⟨b, off, none⟩) Ts.length cap) Ts) := fun o n => HV.out.below (below_drewN (HB.out.alloc HB.out.size _) _)
        cases hn : nameB Ts[k].nm with
        | false =>
          go_wp2
          go_quiet (first | (go_at_call 44; exact (nameOk_any _ _ HSZ.out.s0).mono fun _ _ h => ⟨h.1, _, h.2⟩) | (go_at_call 74; exact (l4Team_any lo _ Ts _ _ (HFr _ _).out).mono fun _ _ h => ⟨h.1, _, h.2⟩))
          go_wp2
          go_ret
          exact ⟨ret_bool (teams_no hlt (by rw [teamAt_eq hlt]; simp [hn])).symm, below_drewN (HB.out.alloc HB.out.size _) _⟩
        | true =>
          cases k with
          | zero =>
            have c0 : wr.cell? ⟨b, off, none⟩ = some (.string Ts[0].nm) := by simpa using c0
            have c1 : wr.cell? ⟨b, off + 1, none⟩ = some (.string Ts[0].ov) := by simpa using c1
            cases hoe : Ts[0].ov.toList.isEmpty with
            | true =>
              have HOK : Hid (deepN Ts 5 Ts[0].nm = false → ∀ i, i < 0 + 1 → teamAt Ts i = true) := fun h i hi => by
                by_cases e : i = 0
                · subst e; rw [teamAt_eq hlt, h]; simp [hn, hoe]
                · exact HA.out i (by omega)
              have HNO : Hid (deepN Ts 5 Ts[0].nm = true → teamsB Ts = false) := fun h => teams_no hlt (by rw [teamAt_eq hlt, h]; simp)
              have HNE : Hid (Ts[0].nm.toList.isEmpty = false) := empty_no (by
                have := hn
                unfold nameB at this
                rw [Bool.and_eq_true, inB_eq] at this
                have := this.1
                simp at this
                omega)
              go_wp2
              go_quiet (first | (go_at_call 44; exact (nameOk_any _ _ HSZ.out.s0).mono fun _ _ h => ⟨h.1, _, h.2⟩) | (go_at_call 74; exact (l4Team_any lo _ Ts _ _ (HFr _ _).out).mono fun _ _ h => ⟨h.1, _, h.2⟩))
              try simp only [hn]
              try simp only [hoe]
              go_wp2
              go_loop [5, 6] (fun x n => ∃ (q : Nat) (a' : ByteArray), x = .string a' ∧ n = .int .i64 q ∧ q ≤ 5 ∧ ((a'.toList.isEmpty = true ∧ deepN Ts 5 Ts[0].nm = false) ∨ (a'.toList.isEmpty = false ∧ deepN Ts 5 Ts[0].nm = deepN Ts (5 - q) a'))) (fun _ n => 5 - (intOf n).toNat)
              case atStart => exact ⟨0, _, rfl, rfl, by omega, Or.inr ⟨HNE.out, rfl⟩⟩
              case round =>
                obtain ⟨q, a', rfl, rfl, hq, hqq⟩ := hrel
                rcases hqq with ⟨hae, hd⟩ | ⟨hae, hd⟩
                · have HD := hide hd
                  clear hd
                  by_cases h5 : q ≤ 4
                  all_goals
                    go_wp2
                    go_roundw
                    case rel => first | exact ⟨0 + 1, by go_num, by omega, below_drewN (HB.out.alloc HB.out.size _) _, HOK.out HD.out⟩ | ((repeat apply Exists.intro); exact ⟨⟨0 + 1, by go_num, by omega, below_drewN (HB.out.alloc HB.out.size _) _, HOK.out HD.out⟩, rfl⟩)
                    case measure => simp [intOf]; omega
                · have HD := hide hd
                  clear hd
                  by_cases h5 : q ≤ 4
                  · have HS : Hid (deepN Ts 5 Ts[0].nm = if (ovB Ts a').toList.isEmpty then false else deepN Ts (5 - (q + 1)) (ovB Ts a')) := by
                      unfold Hid
                      rw [HD.out, show 5 - q = (5 - (q + 1)) + 1 from by omega]
                      rfl
                    clear HD
                    go_wp2_with fail
                    refine (l4Over_any lo _ Ts a' _ (HFr _ _).out).mono ?_
                    rintro e w1 ⟨rfl, rfl⟩
                    go_wp2
                    go_round
                    case rel =>
                      have hnx : ((ovB Ts a').toList.isEmpty = true ∧ deepN Ts 5 Ts[0].nm = false) ∨ ((ovB Ts a').toList.isEmpty = false ∧ deepN Ts 5 Ts[0].nm = deepN Ts (5 - (q + 1)) (ovB Ts a')) := by
                        cases he : (ovB Ts a').toList.isEmpty with
                        | true => exact Or.inl ⟨rfl, by rw [HS.out, if_pos he]⟩
                        | false => exact Or.inr ⟨rfl, by rw [HS.out, if_neg (by simp [he])]⟩
                      first
                        | exact ⟨q + 1, _, rfl, by go_num, by omega, hnx⟩
                        | (refine ⟨trivial, ?_⟩
                           (repeat apply Exists.intro)
                           exact ⟨⟨q + 1, _, rfl, by go_num, by omega, hnx⟩, rfl⟩)
                        | ((repeat apply Exists.intro)
                           exact ⟨⟨q + 1, _, rfl, by go_num, by omega, hnx⟩, rfl⟩)
                    case measure => simp [intOf]; omega
                  · have HR : Hid (teamsB Ts = false) := HNO.out (by rw [HD.out, show 5 - q = 0 from by omega]; rfl)
                    go_wp2
                    go_ret
                    exact ⟨ret_bool HR.out.symm, below_drewN (HB.out.alloc HB.out.size _) _⟩
            | false =>
              cases hht : hasT Ts Ts[0].ov with
              | false =>
                go_wp2
                go_quiet (first | (go_at_call 44; exact (nameOk_any _ _ HSZ.out.s0).mono fun _ _ h => ⟨h.1, _, h.2⟩) | (go_at_call 74; exact (l4Team_any lo _ Ts _ _ (HFr _ _).out).mono fun _ _ h => ⟨h.1, _, h.2⟩))
                go_wp2
                go_ret
                exact ⟨ret_bool (teams_no hlt (by rw [teamAt_eq hlt]; simp [hoe, hht])).symm, below_drewN (HB.out.alloc HB.out.size _) _⟩
              | true =>
                have HOK : Hid (deepN Ts 5 Ts[0].nm = false → ∀ i, i < 0 + 1 → teamAt Ts i = true) := fun h i hi => by
                  by_cases e : i = 0
                  · subst e; rw [teamAt_eq hlt, h]; simp [hn, hoe, hht]
                  · exact HA.out i (by omega)
                have HNO : Hid (deepN Ts 5 Ts[0].nm = true → teamsB Ts = false) := fun h => teams_no hlt (by rw [teamAt_eq hlt, h]; simp)
                have HNE : Hid (Ts[0].nm.toList.isEmpty = false) := empty_no (by
                  have := hn
                  unfold nameB at this
                  rw [Bool.and_eq_true, inB_eq] at this
                  have := this.1
                  simp at this
                  omega)
                go_wp2
                go_quiet (first | (go_at_call 44; exact (nameOk_any _ _ HSZ.out.s0).mono fun _ _ h => ⟨h.1, _, h.2⟩) | (go_at_call 74; exact (l4Team_any lo _ Ts _ _ (HFr _ _).out).mono fun _ _ h => ⟨h.1, _, h.2⟩))
                try simp only [hn]
                try simp only [hoe]
                try simp only [hht]
                go_wp2
                go_loop [5, 6] (fun x n => ∃ (q : Nat) (a' : ByteArray), x = .string a' ∧ n = .int .i64 q ∧ q ≤ 5 ∧ ((a'.toList.isEmpty = true ∧ deepN Ts 5 Ts[0].nm = false) ∨ (a'.toList.isEmpty = false ∧ deepN Ts 5 Ts[0].nm = deepN Ts (5 - q) a'))) (fun _ n => 5 - (intOf n).toNat)
                case atStart => exact ⟨0, _, rfl, rfl, by omega, Or.inr ⟨HNE.out, rfl⟩⟩
                case round =>
                  obtain ⟨q, a', rfl, rfl, hq, hqq⟩ := hrel
                  rcases hqq with ⟨hae, hd⟩ | ⟨hae, hd⟩
                  · have HD := hide hd
                    clear hd
                    by_cases h5 : q ≤ 4
                    all_goals
                      go_wp2
                      go_roundw
                      case rel => first | exact ⟨0 + 1, by go_num, by omega, below_drewN (HB.out.alloc HB.out.size _) _, HOK.out HD.out⟩ | ((repeat apply Exists.intro); exact ⟨⟨0 + 1, by go_num, by omega, below_drewN (HB.out.alloc HB.out.size _) _, HOK.out HD.out⟩, rfl⟩)
                      case measure => simp [intOf]; omega
                  · have HD := hide hd
                    clear hd
                    by_cases h5 : q ≤ 4
                    · have HS : Hid (deepN Ts 5 Ts[0].nm = if (ovB Ts a').toList.isEmpty then false else deepN Ts (5 - (q + 1)) (ovB Ts a')) := by
                        unfold Hid
                        rw [HD.out, show 5 - q = (5 - (q + 1)) + 1 from by omega]
                        rfl
                      clear HD
                      go_wp2_with fail
                      refine (l4Over_any lo _ Ts a' _ (HFr _ _).out).mono ?_
                      rintro e w1 ⟨rfl, rfl⟩
                      go_wp2
                      go_round
                      case rel =>
                        have hnx : ((ovB Ts a').toList.isEmpty = true ∧ deepN Ts 5 Ts[0].nm = false) ∨ ((ovB Ts a').toList.isEmpty = false ∧ deepN Ts 5 Ts[0].nm = deepN Ts (5 - (q + 1)) (ovB Ts a')) := by
                          cases he : (ovB Ts a').toList.isEmpty with
                          | true => exact Or.inl ⟨rfl, by rw [HS.out, if_pos he]⟩
                          | false => exact Or.inr ⟨rfl, by rw [HS.out, if_neg (by simp [he])]⟩
                        first
                          | exact ⟨q + 1, _, rfl, by go_num, by omega, hnx⟩
                          | (refine ⟨trivial, ?_⟩
                             (repeat apply Exists.intro)
                             exact ⟨⟨q + 1, _, rfl, by go_num, by omega, hnx⟩, rfl⟩)
                          | ((repeat apply Exists.intro)
                             exact ⟨⟨q + 1, _, rfl, by go_num, by omega, hnx⟩, rfl⟩)
                      case measure => simp [intOf]; omega
                    · have HR : Hid (teamsB Ts = false) := HNO.out (by rw [HD.out, show 5 - q = 0 from by omega]; rfl)
                      go_wp2
                      go_ret
                      exact ⟨ret_bool HR.out.symm, below_drewN (HB.out.alloc HB.out.size _) _⟩
          | succ j =>
            have HBE : Hid (((Ts[j + 1 - 1]?.map Tm.nm).getD ⟨#[]⟩) = Ts[j].nm) := before_eq hlt
            have hcj : wr.cell? ⟨b, off + j * 2, none⟩ = some (.string Ts[j].nm) := by rw [HB.out.cell (p := ⟨b, _, none⟩) hbw]; exact (hc j (by omega)).2.c0
            have hjw : IntKind.i64.wrap (j : Int) = j := by rw [IntKind.wrap_i64]; omega
            have hjl : j < Ts.length := by omega
            have hdl : decide ((j : Int) + 1 < (Ts.length : Int)) = true := by simp; omega
            have hbo : b < wr.heap.size := Nat.lt_of_lt_of_le hbw HB.out.size
            have cj2 : ∀ o, (wr.alloc o).cell? ⟨b, off + j * 2, none⟩ = some (.string Ts[j].nm) := fun o => by rw [((Below.refl wr.heap.size wr).alloc (Nat.le_refl _) o).cell (p := ⟨b, _, none⟩) hbo]; exact hcj
            have cj3 : ∀ o n, ((wr.alloc o).drewN n).cell? ⟨b, off + j * 2, none⟩ = some (.string Ts[j].nm) := fun o n => cj2 o
            cases hls : Op.bytesLess Ts[j].nm.toList Ts[j + 1].nm.toList with
            | false =>
              go_wp2
              go_quiet (first | (go_at_call 44; exact (nameOk_any _ _ HSZ.out.s0).mono fun _ _ h => ⟨h.1, _, h.2⟩) | (go_at_call 74; exact (l4Team_any lo _ Ts _ _ (HFr _ _).out).mono fun _ _ h => ⟨h.1, _, h.2⟩))
              go_wp2
              go_ret
              exact ⟨ret_bool (teams_no hlt (by rw [teamAt_eq hlt]; rw [HBE.out, hls]; simp)).symm, below_drewN (HB.out.alloc HB.out.size _) _⟩
            | true =>
              cases hoe : Ts[j + 1].ov.toList.isEmpty with
              | true =>
                have HOK : Hid (deepN Ts 5 Ts[j + 1].nm = false → ∀ i, i < j + 1 + 1 → teamAt Ts i = true) := fun h i hi => by
                  by_cases e : i = j + 1
                  · subst e; rw [teamAt_eq hlt, h]; rw [HBE.out, hls]; simp [hn, hoe]
                  · exact HA.out i (by omega)
                have HNO : Hid (deepN Ts 5 Ts[j + 1].nm = true → teamsB Ts = false) := fun h => teams_no hlt (by rw [teamAt_eq hlt, h]; simp)
                have HNE : Hid (Ts[j + 1].nm.toList.isEmpty = false) := empty_no (by
                  have := hn
                  unfold nameB at this
                  rw [Bool.and_eq_true, inB_eq] at this
                  have := this.1
                  simp at this
                  omega)
                go_wp2
                go_quiet (first | (go_at_call 44; exact (nameOk_any _ _ HSZ.out.s0).mono fun _ _ h => ⟨h.1, _, h.2⟩) | (go_at_call 74; exact (l4Team_any lo _ Ts _ _ (HFr _ _).out).mono fun _ _ h => ⟨h.1, _, h.2⟩))
                try simp only [hn]
                try simp only [hoe]
                try simp only [hls]
                go_wp2
                go_loop [5, 6] (fun x n => ∃ (q : Nat) (a' : ByteArray), x = .string a' ∧ n = .int .i64 q ∧ q ≤ 5 ∧ ((a'.toList.isEmpty = true ∧ deepN Ts 5 Ts[j + 1].nm = false) ∨ (a'.toList.isEmpty = false ∧ deepN Ts 5 Ts[j + 1].nm = deepN Ts (5 - q) a'))) (fun _ n => 5 - (intOf n).toNat)
                case atStart => exact ⟨0, _, rfl, rfl, by omega, Or.inr ⟨HNE.out, rfl⟩⟩
                case round =>
                  obtain ⟨q, a', rfl, rfl, hq, hqq⟩ := hrel
                  rcases hqq with ⟨hae, hd⟩ | ⟨hae, hd⟩
                  · have HD := hide hd
                    clear hd
                    by_cases h5 : q ≤ 4
                    all_goals
                      go_wp2
                      go_roundw
                      case rel => first | exact ⟨j + 1 + 1, by go_num, by omega, below_drewN (HB.out.alloc HB.out.size _) _, HOK.out HD.out⟩ | ((repeat apply Exists.intro); exact ⟨⟨j + 1 + 1, by go_num, by omega, below_drewN (HB.out.alloc HB.out.size _) _, HOK.out HD.out⟩, rfl⟩)
                      case measure => simp [intOf]; omega
                  · have HD := hide hd
                    clear hd
                    by_cases h5 : q ≤ 4
                    · have HS : Hid (deepN Ts 5 Ts[j + 1].nm = if (ovB Ts a').toList.isEmpty then false else deepN Ts (5 - (q + 1)) (ovB Ts a')) := by
                        unfold Hid
                        rw [HD.out, show 5 - q = (5 - (q + 1)) + 1 from by omega]
                        rfl
                      clear HD
                      go_wp2_with fail
                      refine (l4Over_any lo _ Ts a' _ (HFr _ _).out).mono ?_
                      rintro e w1 ⟨rfl, rfl⟩
                      go_wp2
                      go_round
                      case rel =>
                        have hnx : ((ovB Ts a').toList.isEmpty = true ∧ deepN Ts 5 Ts[j + 1].nm = false) ∨ ((ovB Ts a').toList.isEmpty = false ∧ deepN Ts 5 Ts[j + 1].nm = deepN Ts (5 - (q + 1)) (ovB Ts a')) := by
                          cases he : (ovB Ts a').toList.isEmpty with
                          | true => exact Or.inl ⟨rfl, by rw [HS.out, if_pos he]⟩
                          | false => exact Or.inr ⟨rfl, by rw [HS.out, if_neg (by simp [he])]⟩
                        first
                          | exact ⟨q + 1, _, rfl, by go_num, by omega, hnx⟩
                          | (refine ⟨trivial, ?_⟩
                             (repeat apply Exists.intro)
                             exact ⟨⟨q + 1, _, rfl, by go_num, by omega, hnx⟩, rfl⟩)
                          | ((repeat apply Exists.intro)
                             exact ⟨⟨q + 1, _, rfl, by go_num, by omega, hnx⟩, rfl⟩)
                      case measure => simp [intOf]; omega
                    · have HR : Hid (teamsB Ts = false) := HNO.out (by rw [HD.out, show 5 - q = 0 from by omega]; rfl)
                      go_wp2
                      go_ret
                      exact ⟨ret_bool HR.out.symm, below_drewN (HB.out.alloc HB.out.size _) _⟩
              | false =>
                cases hht : hasT Ts Ts[j + 1].ov with
                | false =>
                  go_wp2
                  go_quiet (first | (go_at_call 44; exact (nameOk_any _ _ HSZ.out.s0).mono fun _ _ h => ⟨h.1, _, h.2⟩) | (go_at_call 74; exact (l4Team_any lo _ Ts _ _ (HFr _ _).out).mono fun _ _ h => ⟨h.1, _, h.2⟩))
                  go_wp2
                  go_ret
                  exact ⟨ret_bool (teams_no hlt (by rw [teamAt_eq hlt]; simp [hoe, hht])).symm, below_drewN (HB.out.alloc HB.out.size _) _⟩
                | true =>
                  have HOK : Hid (deepN Ts 5 Ts[j + 1].nm = false → ∀ i, i < j + 1 + 1 → teamAt Ts i = true) := fun h i hi => by
                    by_cases e : i = j + 1
                    · subst e; rw [teamAt_eq hlt, h]; rw [HBE.out, hls]; simp [hn, hoe, hht]
                    · exact HA.out i (by omega)
                  have HNO : Hid (deepN Ts 5 Ts[j + 1].nm = true → teamsB Ts = false) := fun h => teams_no hlt (by rw [teamAt_eq hlt, h]; simp)
                  have HNE : Hid (Ts[j + 1].nm.toList.isEmpty = false) := empty_no (by
                    have := hn
                    unfold nameB at this
                    rw [Bool.and_eq_true, inB_eq] at this
                    have := this.1
                    simp at this
                    omega)
                  go_wp2
                  go_quiet (first | (go_at_call 44; exact (nameOk_any _ _ HSZ.out.s0).mono fun _ _ h => ⟨h.1, _, h.2⟩) | (go_at_call 74; exact (l4Team_any lo _ Ts _ _ (HFr _ _).out).mono fun _ _ h => ⟨h.1, _, h.2⟩))
                  try simp only [hn]
                  try simp only [hoe]
                  try simp only [hht]
                  try simp only [hls]
                  go_wp2
                  go_loop [5, 6] (fun x n => ∃ (q : Nat) (a' : ByteArray), x = .string a' ∧ n = .int .i64 q ∧ q ≤ 5 ∧ ((a'.toList.isEmpty = true ∧ deepN Ts 5 Ts[j + 1].nm = false) ∨ (a'.toList.isEmpty = false ∧ deepN Ts 5 Ts[j + 1].nm = deepN Ts (5 - q) a'))) (fun _ n => 5 - (intOf n).toNat)
                  case atStart => exact ⟨0, _, rfl, rfl, by omega, Or.inr ⟨HNE.out, rfl⟩⟩
                  case round =>
                    obtain ⟨q, a', rfl, rfl, hq, hqq⟩ := hrel
                    rcases hqq with ⟨hae, hd⟩ | ⟨hae, hd⟩
                    · have HD := hide hd
                      clear hd
                      by_cases h5 : q ≤ 4
                      all_goals
                        go_wp2
                        go_roundw
                        case rel => first | exact ⟨j + 1 + 1, by go_num, by omega, below_drewN (HB.out.alloc HB.out.size _) _, HOK.out HD.out⟩ | ((repeat apply Exists.intro); exact ⟨⟨j + 1 + 1, by go_num, by omega, below_drewN (HB.out.alloc HB.out.size _) _, HOK.out HD.out⟩, rfl⟩)
                        case measure => simp [intOf]; omega
                    · have HD := hide hd
                      clear hd
                      by_cases h5 : q ≤ 4
                      · have HS : Hid (deepN Ts 5 Ts[j + 1].nm = if (ovB Ts a').toList.isEmpty then false else deepN Ts (5 - (q + 1)) (ovB Ts a')) := by
                          unfold Hid
                          rw [HD.out, show 5 - q = (5 - (q + 1)) + 1 from by omega]
                          rfl
                        clear HD
                        go_wp2_with fail
                        refine (l4Over_any lo _ Ts a' _ (HFr _ _).out).mono ?_
                        rintro e w1 ⟨rfl, rfl⟩
                        go_wp2
                        go_round
                        case rel =>
                          have hnx : ((ovB Ts a').toList.isEmpty = true ∧ deepN Ts 5 Ts[j + 1].nm = false) ∨ ((ovB Ts a').toList.isEmpty = false ∧ deepN Ts 5 Ts[j + 1].nm = deepN Ts (5 - (q + 1)) (ovB Ts a')) := by
                            cases he : (ovB Ts a').toList.isEmpty with
                            | true => exact Or.inl ⟨rfl, by rw [HS.out, if_pos he]⟩
                            | false => exact Or.inr ⟨rfl, by rw [HS.out, if_neg (by simp [he])]⟩
                          first
                            | exact ⟨q + 1, _, rfl, by go_num, by omega, hnx⟩
                            | (refine ⟨trivial, ?_⟩
                               (repeat apply Exists.intro)
                               exact ⟨⟨q + 1, _, rfl, by go_num, by omega, hnx⟩, rfl⟩)
                            | ((repeat apply Exists.intro)
                               exact ⟨⟨q + 1, _, rfl, by go_num, by omega, hnx⟩, rfl⟩)
                        case measure => simp [intOf]; omega
                      · have HR : Hid (teamsB Ts = false) := HNO.out (by rw [HD.out, show 5 - q = 0 from by omega]; rfl)
                        go_wp2
                        go_ret
                        exact ⟨ret_bool HR.out.symm, below_drewN (HB.out.alloc HB.out.size _) _⟩
      · have HR : Hid (teamsB Ts = true) := teams_yes H12.out (by omega) HA.out
        go_wp2
        go_ret
        exact ⟨ret_bool HR.out.symm, HB.out⟩

end Go.Proofs.Ytmaagbnjpdijnaa

namespace Go.Proofs.Ytmaagbnjpdijnaa
open Go.RowKit Go.Deep

set_option maxRecDepth 20000 in
set_option maxHeartbeats 4000000 in
theorem implTeams_any (lo : Nat) (v : Value) (Ts : List Tm) (w : World) (hv : TmsAt lo w v Ts) :
    Calls Try.prog 46 #[v] w fun e w' => e = .returned (.bool (teamsB Ts)) ∧ Below w.heap.size w w' := by
  by_cases h12 : ¬ Ts.length ≤ 12
  · have HR := hide (teams_big h12)
    have hmx := hv.max
    unfold maxLen at hmx
    obtain ⟨a, cap, rfl⟩ := hv.form
    go_enter Try.func46, Try.ntmps46
    go_wp2
    go_ret
    exact ⟨ret_bool HR.out.symm, Below.refl _ _⟩
  replace h12 : Ts.length ≤ 12 := by omega
  by_cases hL : Ts = []
  · subst hL
    obtain ⟨a, cap, rfl⟩ := hv.form
    clear hv
    go_enter Try.func46, Try.ntmps46
    go_wp2
    go_loop [10] (fun i => i = .int .i64 0) (fun _ => 0)
    case atStart => rfl
    case round =>
      subst hrel
      go_wp2
      go_ret
      exact ⟨ret_bool (by rfl), Below.refl _ _⟩
  · have HV := hide hv
    obtain ⟨b, off, cap, rfl, hm, hbw, _, hc⟩ := hv.full hL
    clear hv hm
    have H12 := hide h12
    have h12i : decide ((12 : Int) < (Ts.length : Int)) = false := by simp; omega
    go_enter Try.func46, Try.ntmps46
    go_wp2
    go_loopw [10] (fun i wr => ∃ k : Nat, i = .int .i64 k ∧ k ≤ Ts.length ∧ Below w.heap.size w wr ∧ ∀ i, i < k → teamAt Ts i = true) (fun i _ => Ts.length - (intOf i).toNat)
    case atStart => exact ⟨0, rfl, by omega, Below.refl _ _, fun i h => by omega⟩
    case round =>
      obtain ⟨k, rfl, hk, hb, hall⟩ := hrel
      have HA := hide hall
      have HB := hide hb
      clear hall hb
      by_cases hlt : k < Ts.length
      · obtain ⟨hsz, hcell⟩ := hc k hlt
        have HSZ := hide hsz
        obtain ⟨c0, c1⟩ := hcell.below HB.out hbw
        clear hcell hsz
        cases hn : nameB Ts[k].nm with
        | false =>
          go_wp2
          go_quiet ((go_at_call 47; exact (isName_any _ _ HSZ.out.s0).mono fun _ _ h => ⟨h.1, _, h.2⟩))
          go_wp2
          go_ret
          exact ⟨ret_bool (teams_no hlt (by rw [teamAt_eq hlt]; simp [hn])).symm, below_drewN (HB.out.alloc HB.out.size _) _⟩
        | true =>
          cases k with
          | zero =>
            have c0 : wr.cell? ⟨b, off, none⟩ = some (.string Ts[0].nm) := by simpa using c0
            have c1 : wr.cell? ⟨b, off + 1, none⟩ = some (.string Ts[0].ov) := by simpa using c1
            go_wp2
            go_quiet ((go_at_call 47; exact (isName_any _ _ HSZ.out.s0).mono fun _ _ h => ⟨h.1, _, h.2⟩))
            try simp only [hn]
            generalize hWb : World.drewN _ _ = Wb
            have HBX : Hid (Box Wb wr.heap.size #[.string Ts[0].nm, .string Ts[0].ov]) := by rw [← hWb]; exact (Box.new _ _ _ _ rfl).on (below_drewN (Below.refl _ _) _)
            have HBB : Hid (Below w.heap.size w Wb) := by rw [← hWb]; exact below_drewN (HB.out.alloc HB.out.size _) _
            clear hWb
            have b0 : Wb.cell? ⟨wr.heap.size, 0, none⟩ = some (.string Ts[0].nm) := HBX.out.cell 0
            have b1 : Wb.cell? ⟨wr.heap.size, 1, none⟩ = some (.string Ts[0].ov) := HBX.out.cell 1
            cases hoe : Ts[0].ov.toList.isEmpty with
            | true =>
              go_wp2_with fail
              refine (tooDeep_any lo _ Ts Ts[0].nm _ (HV.out.below HBB.out)).mono ?_
              rintro e w2 ⟨rfl, hb2⟩
              have HB2 : Hid (Below w.heap.size w w2) := HBB.out.trans (hb2.mono HBB.out.size)
              clear hb2 HBB HBX b0 b1
              cases hd : deepN Ts 5 Ts[0].nm with
              | true =>
                have HR : Hid (teamsB Ts = false) := teams_no hlt (by rw [teamAt_eq hlt, hd]; simp)
                go_wp2
                go_ret
                exact ⟨ret_bool HR.out.symm, HB2.out⟩
              | false =>
                have HOK : Hid (∀ i, i < 0 + 1 → teamAt Ts i = true) := fun i hi => by
                  by_cases e : i = 0
                  · subst e; rw [teamAt_eq hlt, hd]; simp [hn, hoe]
                  · exact HA.out i (by omega)
                go_wp2
                go_roundw
                case rel => exact ⟨0 + 1, by go_num, by omega, HB2.out, HOK.out⟩
                case measure => simp [intOf]; omega
            | false =>
              go_wp2_with fail
              refine (teamPlace_any lo _ Ts Ts[0].ov _ (HV.out.below HBB.out)).mono ?_
              rintro e w1 ⟨rfl, hb1⟩
              have HBX := hide (HBX.out.on hb1)
              have HBB : Hid (Below w.heap.size w w1) := HBB.out.trans (hb1.mono HBB.out.size)
              clear hb1 b0 b1
              have b0 : w1.cell? ⟨wr.heap.size, 0, none⟩ = some (.string Ts[0].nm) := HBX.out.cell 0
              have b1 : w1.cell? ⟨wr.heap.size, 1, none⟩ = some (.string Ts[0].ov) := HBX.out.cell 1
              by_cases hp : plT Ts Ts[0].ov < Ts.length
              · have hht : hasT Ts Ts[0].ov = true := by rw [hasT_eq]; exact decide_eq_true hp
                rw [placeT_lt hp]
                clear hp
                generalize plT Ts Ts[0].ov = pp
                go_wp2_with fail
                refine (tooDeep_any lo _ Ts Ts[0].nm _ (HV.out.below HBB.out)).mono ?_
                rintro e w2 ⟨rfl, hb2⟩
                have HB2 : Hid (Below w.heap.size w w2) := HBB.out.trans (hb2.mono HBB.out.size)
                clear hb2 HBB HBX b0 b1
                cases hd : deepN Ts 5 Ts[0].nm with
                | true =>
                  have HR : Hid (teamsB Ts = false) := teams_no hlt (by rw [teamAt_eq hlt, hd]; simp)
                  go_wp2
                  go_ret
                  exact ⟨ret_bool HR.out.symm, HB2.out⟩
                | false =>
                  have HOK : Hid (∀ i, i < 0 + 1 → teamAt Ts i = true) := fun i hi => by
                    by_cases e : i = 0
                    · subst e; rw [teamAt_eq hlt, hd]; simp [hn, hoe, hht]
                    · exact HA.out i (by omega)
                  go_wp2
                  go_roundw
                  case rel => exact ⟨0 + 1, by go_num, by omega, HB2.out, HOK.out⟩
                  case measure => simp [intOf]; omega
              · have hht : hasT Ts Ts[0].ov = false := by rw [hasT_eq]; exact decide_eq_false hp
                have HR : Hid (teamsB Ts = false) := teams_no hlt (by rw [teamAt_eq hlt, hht, hoe]; simp)
                rw [placeT_ge hp]
                clear hp
                go_wp2
                go_ret
                exact ⟨ret_bool HR.out.symm, HBB.out⟩
          | succ j =>
            have HBE : Hid (((Ts[j + 1 - 1]?.map Tm.nm).getD ⟨#[]⟩) = Ts[j].nm) := before_eq hlt
            have hcj : wr.cell? ⟨b, off + j * 2, none⟩ = some (.string Ts[j].nm) := by rw [HB.out.cell (p := ⟨b, _, none⟩) hbw]; exact (hc j (by omega)).2.c0
            have hjw : IntKind.i64.wrap (j : Int) = j := by rw [IntKind.wrap_i64]; omega
            have hjl : j < Ts.length := by omega
            have hdl : decide ((j : Int) + 1 < (Ts.length : Int)) = true := by simp; omega
            have hbo : b < wr.heap.size := Nat.lt_of_lt_of_le hbw HB.out.size
            have cj2 : ∀ o, (wr.alloc o).cell? ⟨b, off + j * 2, none⟩ = some (.string Ts[j].nm) := fun o => by rw [((Below.refl wr.heap.size wr).alloc (Nat.le_refl _) o).cell (p := ⟨b, _, none⟩) hbo]; exact hcj
            have cj3 : ∀ o n, ((wr.alloc o).drewN n).cell? ⟨b, off + j * 2, none⟩ = some (.string Ts[j].nm) := fun o n => cj2 o
            cases hls : Op.bytesLess Ts[j].nm.toList Ts[j + 1].nm.toList with
            | false =>
              go_wp2
              go_quiet ((go_at_call 47; exact (isName_any _ _ HSZ.out.s0).mono fun _ _ h => ⟨h.1, _, h.2⟩))
              go_wp2
              go_ret
              exact ⟨ret_bool (teams_no hlt (by rw [teamAt_eq hlt]; rw [HBE.out, hls]; simp)).symm, below_drewN (HB.out.alloc HB.out.size _) _⟩
            | true =>
              go_wp2
              go_quiet ((go_at_call 47; exact (isName_any _ _ HSZ.out.s0).mono fun _ _ h => ⟨h.1, _, h.2⟩))
              try simp only [hn]
              try simp only [hls]
              generalize hWb : World.drewN _ _ = Wb
              have HBX : Hid (Box Wb wr.heap.size #[.string Ts[j + 1].nm, .string Ts[j + 1].ov]) := by rw [← hWb]; exact (Box.new _ _ _ _ rfl).on (below_drewN (Below.refl _ _) _)
              have HBB : Hid (Below w.heap.size w Wb) := by rw [← hWb]; exact below_drewN (HB.out.alloc HB.out.size _) _
              clear hWb
              have b0 : Wb.cell? ⟨wr.heap.size, 0, none⟩ = some (.string Ts[j + 1].nm) := HBX.out.cell 0
              have b1 : Wb.cell? ⟨wr.heap.size, 1, none⟩ = some (.string Ts[j + 1].ov) := HBX.out.cell 1
              cases hoe : Ts[j + 1].ov.toList.isEmpty with
              | true =>
                go_wp2_with fail
                refine (tooDeep_any lo _ Ts Ts[j + 1].nm _ (HV.out.below HBB.out)).mono ?_
                rintro e w2 ⟨rfl, hb2⟩
                have HB2 : Hid (Below w.heap.size w w2) := HBB.out.trans (hb2.mono HBB.out.size)
                clear hb2 HBB HBX b0 b1
                cases hd : deepN Ts 5 Ts[j + 1].nm with
                | true =>
                  have HR : Hid (teamsB Ts = false) := teams_no hlt (by rw [teamAt_eq hlt, hd]; simp)
                  go_wp2
                  go_ret
                  exact ⟨ret_bool HR.out.symm, HB2.out⟩
                | false =>
                  have HOK : Hid (∀ i, i < j + 1 + 1 → teamAt Ts i = true) := fun i hi => by
                    by_cases e : i = j + 1
                    · subst e; rw [teamAt_eq hlt, hd]; rw [HBE.out, hls]; simp [hn, hoe]
                    · exact HA.out i (by omega)
                  go_wp2
                  go_roundw
                  case rel => exact ⟨j + 1 + 1, by go_num, by omega, HB2.out, HOK.out⟩
                  case measure => simp [intOf]; omega
              | false =>
                go_wp2_with fail
                refine (teamPlace_any lo _ Ts Ts[j + 1].ov _ (HV.out.below HBB.out)).mono ?_
                rintro e w1 ⟨rfl, hb1⟩
                have HBX := hide (HBX.out.on hb1)
                have HBB : Hid (Below w.heap.size w w1) := HBB.out.trans (hb1.mono HBB.out.size)
                clear hb1 b0 b1
                have b0 : w1.cell? ⟨wr.heap.size, 0, none⟩ = some (.string Ts[j + 1].nm) := HBX.out.cell 0
                have b1 : w1.cell? ⟨wr.heap.size, 1, none⟩ = some (.string Ts[j + 1].ov) := HBX.out.cell 1
                by_cases hp : plT Ts Ts[j + 1].ov < Ts.length
                · have hht : hasT Ts Ts[j + 1].ov = true := by rw [hasT_eq]; exact decide_eq_true hp
                  rw [placeT_lt hp]
                  clear hp
                  generalize plT Ts Ts[j + 1].ov = pp
                  go_wp2_with fail
                  refine (tooDeep_any lo _ Ts Ts[j + 1].nm _ (HV.out.below HBB.out)).mono ?_
                  rintro e w2 ⟨rfl, hb2⟩
                  have HB2 : Hid (Below w.heap.size w w2) := HBB.out.trans (hb2.mono HBB.out.size)
                  clear hb2 HBB HBX b0 b1
                  cases hd : deepN Ts 5 Ts[j + 1].nm with
                  | true =>
                    have HR : Hid (teamsB Ts = false) := teams_no hlt (by rw [teamAt_eq hlt, hd]; simp)
                    go_wp2
                    go_ret
                    exact ⟨ret_bool HR.out.symm, HB2.out⟩
                  | false =>
                    have HOK : Hid (∀ i, i < j + 1 + 1 → teamAt Ts i = true) := fun i hi => by
                      by_cases e : i = j + 1
                      · subst e; rw [teamAt_eq hlt, hd]; rw [HBE.out, hls]; simp [hn, hoe, hht]
                      · exact HA.out i (by omega)
                    go_wp2
                    go_roundw
                    case rel => exact ⟨j + 1 + 1, by go_num, by omega, HB2.out, HOK.out⟩
                    case measure => simp [intOf]; omega
                · have hht : hasT Ts Ts[j + 1].ov = false := by rw [hasT_eq]; exact decide_eq_false hp
                  have HR : Hid (teamsB Ts = false) := teams_no hlt (by rw [teamAt_eq hlt, hht, hoe]; simp)
                  rw [placeT_ge hp]
                  clear hp
                  go_wp2
                  go_ret
                  exact ⟨ret_bool HR.out.symm, HBB.out⟩
      · have HR : Hid (teamsB Ts = true) := teams_yes H12.out (by omega) HA.out
        go_wp2
        go_ret
        exact ⟨ret_bool HR.out.symm, HB.out⟩

end Go.Proofs.Ytmaagbnjpdijnaa

