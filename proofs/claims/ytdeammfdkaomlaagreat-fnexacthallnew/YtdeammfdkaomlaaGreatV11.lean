import Derived.Test.YtdeammfdkaomlaaGreatV08
import Derived.Test.YtdeammfdkaomlaaGreatV10
namespace Go.Proofs.YtdeammfdkaomlaaGreat
open Go.RowKit Go.Deep

set_option maxHeartbeats 1000000 in
theorem l4Over_any (lo : Nat) (v : Value) (Ts : List Tm) (s : ByteArray) (w : World) (hv : TmsAt lo w v Ts) :
    Calls Tryz.prog 158 #[v, .string s] w fun e w' => e = .returned (.string (ovB Ts s)) ∧ w' = w := by
  by_cases hL : Ts = []
  · subst hL
    obtain ⟨a, cap, rfl⟩ := hv.form
    clear hv
    go_enter Tryz.func158, Tryz.ntmps158
    go_wp2
    go_loop [5] (fun i => i = .int .i64 0) (fun _ => 0)
    case atStart => rfl
    case round =>
      subst hrel
      go_wp2
      go_ret
      exact ⟨rfl, rfl⟩
  · obtain ⟨b, off, cap, rfl, hm, hbw, _, hc⟩ := hv.full hL
    clear hv
    unfold maxLen at hm
    go_enter Tryz.func158, Tryz.ntmps158
    go_wp2
    go_loop [5] (fun i => ∃ k : Nat, i = .int .i64 k ∧ k ≤ Ts.length ∧ ∀ j (hj : j < Ts.length), j < k → (Ts[j].nm.toList == s.toList) = false) (fun i => Ts.length - (intOf i).toNat)
    case atStart => exact ⟨0, rfl, by omega, fun j _ h => by omega⟩
    case round =>
      obtain ⟨k, rfl, hk, hall⟩ := hrel
      have HA := hide hall
      clear hall
      by_cases hlt : k < Ts.length
      · obtain ⟨_, hcell⟩ := hc k hlt
        obtain ⟨c0, c1⟩ := hcell
        cases he : (Ts[k].nm.toList == s.toList) with
        | true =>
          go_wp2
          go_ret
          exact ⟨ret_str (ovB_at hlt he HA.out).symm, rfl⟩
        | false =>
          go_wp2
          go_round
          case rel => exact ⟨k + 1, by go_num, by omega, fun j hj h => by
                        by_cases e : j = k
                        · subst e; exact he
                        · exact HA.out j hj (by omega)⟩
          case measure => simp [intOf]; omega
      · go_wp2
        go_ret
        exact ⟨ret_str (ovB_no fun j hj => HA.out j hj (by omega)).symm, rfl⟩

set_option maxHeartbeats 1000000 in
theorem l4Team_any (lo : Nat) (v : Value) (Ts : List Tm) (s : ByteArray) (w : World) (hv : TmsAt lo w v Ts) :
    Calls Tryz.prog 157 #[v, .string s] w fun e w' => e = .returned (.bool (hasT Ts s)) ∧ w' = w := by
  by_cases hL : Ts = []
  · subst hL
    obtain ⟨a, cap, rfl⟩ := hv.form
    clear hv
    go_enter Tryz.func157, Tryz.ntmps157
    go_wp2
    go_loop [5] (fun i => i = .int .i64 0) (fun _ => 0)
    case atStart => rfl
    case round =>
      subst hrel
      go_wp2
      go_ret
      exact ⟨rfl, rfl⟩
  · obtain ⟨b, off, cap, rfl, hm, hbw, _, hc⟩ := hv.full hL
    clear hv
    unfold maxLen at hm
    go_enter Tryz.func157, Tryz.ntmps157
    go_wp2
    go_loop [5] (fun i => ∃ k : Nat, i = .int .i64 k ∧ k ≤ Ts.length ∧ ∀ j (hj : j < Ts.length), j < k → (Ts[j].nm.toList == s.toList) = false) (fun i => Ts.length - (intOf i).toNat)
    case atStart => exact ⟨0, rfl, by omega, fun j _ h => by omega⟩
    case round =>
      obtain ⟨k, rfl, hk, hall⟩ := hrel
      have HA := hide hall
      clear hall
      by_cases hlt : k < Ts.length
      · obtain ⟨_, hcell⟩ := hc k hlt
        obtain ⟨c0, c1⟩ := hcell
        cases he : (Ts[k].nm.toList == s.toList) with
        | true =>
          go_wp2
          go_ret
          exact ⟨ret_bool (hasT_stop hlt he).symm, rfl⟩
        | false =>
          go_wp2
          go_round
          case rel => exact ⟨k + 1, by go_num, by omega, fun j hj h => by
                        by_cases e : j = k
                        · subst e; exact he
                        · exact HA.out j hj (by omega)⟩
          case measure => simp [intOf]; omega
      · go_wp2
        go_ret
        exact ⟨ret_bool (hasT_no fun j hj => HA.out j hj (by omega)).symm, rfl⟩

section
variable (nm ov : ByteArray) (w : World)
set_option maxHeartbeats 400000 in
theorem closT_any (s : ByteArray) (B : Nat) (hB : B < w.heap.size) (hs : w.cell? ⟨B, 0, none⟩ = some (.string s)) :
    Calls Tryz.prog 186 #[.agg #[.string nm, .string ov], .pointer (some ⟨B, 0, none⟩)] w
      fun e w' => e = .returned (.bool (nm.toList == s.toList)) ∧ Below w.heap.size w w' := by
  go_enter Tryz.func186, Tryz.ntmps186
  go_wp2
  go_ret
  exact ⟨rfl, (Below.refl _ _).alloc (Nat.le_refl _) _⟩
end

set_option maxHeartbeats 1000000 in
theorem indexFuncT_any (lo : Nat) (v : Value) (Ts : List Tm) (s : ByteArray) (B : Nat) (w : World) (hv : TmsAt lo w v Ts) (hB : B < w.heap.size) (hs : w.cell? ⟨B, 0, none⟩ = some (.string s)) :
    Calls Tryz.prog 185 #[v, .func (.func 186) #[] #[.pointer (some ⟨B, 0, none⟩)]] w fun e w' => e = .returned (.int .i64 (placeT Ts s)) ∧ Below w.heap.size w w' := by
  by_cases hL : Ts = []
  · subst hL
    obtain ⟨a, cap, rfl⟩ := hv.form
    clear hv
    go_enter Tryz.func185, Tryz.ntmps185
    go_wp2
    go_loop [8] (fun i => i = .int .i64 0) (fun _ => 0)
    case atStart => rfl
    case round =>
      subst hrel
      go_wp2
      go_ret
      exact ⟨rfl, Below.refl _ _⟩
  · obtain ⟨b, off, cap, rfl, hm, hbw, _, hc⟩ := hv.full hL
    clear hv
    unfold maxLen at hm
    go_enter Tryz.func185, Tryz.ntmps185
    go_wp2
    go_loopw [8] (fun i wr => ∃ k : Nat, i = .int .i64 k ∧ k ≤ Ts.length ∧ Below w.heap.size w wr ∧ ∀ j (hj : j < Ts.length), j < k → (Ts[j].nm.toList == s.toList) = false) (fun i _ => Ts.length - (intOf i).toNat)
    case atStart => exact ⟨0, rfl, by omega, Below.refl _ _, fun j _ h => by omega⟩
    case round =>
      obtain ⟨k, rfl, hk, hb, hall⟩ := hrel
      have HA := hide hall
      have HB := hide hb
      clear hall hb
      by_cases hlt : k < Ts.length
      · obtain ⟨_, hcell⟩ := hc k hlt
        obtain ⟨c0, c1⟩ := hcell.below HB.out hbw
        clear hcell
        go_wp2_with fail
        refine (closT_any _ _ _ s B (Nat.lt_of_lt_of_le hB HB.out.size) (by rw [HB.out.cell (p := ⟨B, 0, none⟩) hB]; exact hs)).mono ?_
        rintro e w1 ⟨rfl, hb1⟩
        have HB1 : Hid (Below w.heap.size w w1) := HB.out.trans (hb1.mono HB.out.size)
        clear hb1 c0 c1
        cases he : (Ts[k].nm.toList == s.toList) with
        | true =>
          go_wp2
          go_ret
          exact ⟨by rw [placeT_yes hlt he HA.out]; rfl, HB1.out⟩
        | false =>
          go_wp2
          go_roundw
          case rel => exact ⟨k + 1, by go_num, by omega, HB1.out, fun j hj h => by
                        by_cases e : j = k
                        · subst e; exact he
                        · exact HA.out j hj (by omega)⟩
          case measure => simp [intOf]; omega
      · go_wp2
        go_ret
        exact ⟨by rw [placeT_no fun j hj => HA.out j hj (by omega)]; rfl, HB.out⟩

set_option maxHeartbeats 400000 in
theorem teamPlace_any (lo : Nat) (v : Value) (Ts : List Tm) (s : ByteArray) (w : World) (hv : TmsAt lo w v Ts) :
    Calls Tryz.prog 161 #[v, .string s] w fun e w' => e = .returned (.int .i64 (placeT Ts s)) ∧ Below w.heap.size w w' := by
  have HV := hide hv
  obtain ⟨a, cap, rfl⟩ := hv.form
  clear hv
  have HW : ∀ o, Hid (Below w.heap.size w (w.alloc o)) := fun o => one_al _ _
  go_enter Tryz.func161, Tryz.ntmps161
  go_wp2_with fail
  refine (indexFuncT_any lo _ Ts s _ _ (HV.out.below (HW _).out) (by simp) (by simp)).mono ?_
  rintro e w1 ⟨rfl, hb⟩
  have HB : Hid (Below w.heap.size w w1) := (HW _).out.trans (hb.mono (by simp))
  clear hb
  go_wp2
  go_ret
  exact ⟨rfl, HB.out⟩

set_option maxHeartbeats 400000 in
theorem overOf_any (lo : Nat) (v : Value) (Ts : List Tm) (s : ByteArray) (w : World) (hv : TmsAt lo w v Ts) :
    Calls Tryz.prog 187 #[v, .string s] w fun e w' => e = .returned (.string (ovB Ts s)) ∧ Below w.heap.size w w' := by
  have HV := hide hv
  obtain ⟨a, cap, rfl⟩ := hv.form
  clear hv
  go_enter Tryz.func187, Tryz.ntmps187
  go_wp2_with fail
  refine (teamPlace_any lo _ Ts s _ HV.out).mono ?_
  rintro e w1 ⟨rfl, hb⟩
  have HB := hide hb
  clear hb
  by_cases hp : plT Ts s < Ts.length
  · rw [placeT_lt hp]
    have hmx := HV.out.max
    obtain ⟨b, off, rfl, hbw, hc⟩ := HV.out.full' (by omega)
    obtain ⟨_, hcell⟩ := hc _ hp
    obtain ⟨c0, c1⟩ := hcell.below HB.out hbw
    have HO := hide (ovB_lt hp)
    unfold maxLen at hmx
    clear hc hcell
    generalize plT Ts s = p at *
    go_wp2
    go_ret
    exact ⟨ret_str HO.out.symm, HB.out⟩
  · rw [placeT_ge hp]
    have HO := hide (ovB_ge hp)
    go_wp2
    go_ret
    exact ⟨ret_str HO.out.symm, HB.out⟩

set_option maxHeartbeats 1000000 in
theorem tooDeep_any (lo : Nat) (v : Value) (Ts : List Tm) (a : ByteArray) (w : World) (hv : TmsAt lo w v Ts) :
    Calls Tryz.prog 162 #[v, .string a] w fun e w' => e = .returned (.bool (deepN Ts 5 a)) ∧ Below w.heap.size w w' := by
  have HV := hide hv
  obtain ⟨ta, tcap, rfl⟩ := hv.form
  clear hv
  go_enter Tryz.func162, Tryz.ntmps162
  go_wp2
  go_loopw [1, 5] (fun x n wr => ∃ (k : Nat) (a' : ByteArray), x = .string a' ∧ n = .int .i64 k ∧ k ≤ 5 ∧ deepN Ts 5 a = deepN Ts (5 - k) a' ∧ Below w.heap.size w wr) (fun _ n _ => 5 - (intOf n).toNat)
  case atStart => exact ⟨0, a, rfl, rfl, by omega, rfl, Below.refl _ _⟩
  case round =>
    obtain ⟨k, a', rfl, rfl, hk, hu, hb⟩ := hrel
    have HU := hide hu
    have HB := hide hb
    clear hu hb
    by_cases hlt : k < 5
    · have HS : Hid (deepN Ts 5 a = if (ovB Ts a').toList.isEmpty then false else deepN Ts (5 - (k + 1)) (ovB Ts a')) := by
        unfold Hid
        rw [HU.out, show 5 - k = (5 - (k + 1)) + 1 from by omega]
        rfl
      clear HU
      go_wp2_with fail
      refine (overOf_any lo _ Ts a' _ (HV.out.below HB.out)).mono ?_
      rintro e w1 ⟨rfl, hb1⟩
      have HB1 : Hid (Below w.heap.size w w1) := HB.out.trans (hb1.mono HB.out.size)
      clear hb1 HB
      cases he : (ovB Ts a').toList.isEmpty with
      | true =>
        have HR : Hid (deepN Ts 5 a = false) := by unfold Hid; rw [HS.out, if_pos he]
        go_wp2
        go_ret
        exact ⟨ret_bool HR.out.symm, HB1.out⟩
      | false =>
        have HR : Hid (deepN Ts 5 a = deepN Ts (5 - (k + 1)) (ovB Ts a')) := by unfold Hid; rw [HS.out, if_neg (by simp [he])]
        go_wp2
        go_roundw
        case rel => exact ⟨k + 1, _, rfl, by go_num, by omega, HR.out, HB1.out⟩
        case measure => simp [intOf]; omega
    · have HR : Hid (deepN Ts 5 a = true) := by unfold Hid; rw [HU.out, show 5 - k = 0 from by omega]; rfl
      go_wp2
      go_ret
      exact ⟨ret_bool HR.out.symm, HB.out⟩
end Go.Proofs.YtdeammfdkaomlaaGreat
