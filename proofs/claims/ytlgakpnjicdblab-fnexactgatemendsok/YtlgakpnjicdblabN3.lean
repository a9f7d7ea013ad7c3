import Derived.Test.YtlgakpnjicdblabN1
namespace Go.Proofs.Ytlgakpnjicdblab
open Go.RowKit Go.Deep

/-- a number that tells a place, or that there is none -/
def placeI (Fs : List Fd) (s : ByteArray) : Int := if plOf Fs s < Fs.length then (plOf Fs s : Int) else -1
theorem placeI_yes {Fs : List Fd} {s : ByteArray} {k : Nat} (hk : k < Fs.length) (h : (Fs[k].nm.toList == s.toList) = true) (hall : ∀ i (h : i < Fs.length), i < k → (Fs[i].nm.toList == s.toList) = false) : placeI Fs s = k := by
  unfold placeI; rw [plOf_at hk h hall, if_pos hk]
theorem placeI_no {Fs : List Fd} {s : ByteArray} (hall : ∀ i (h : i < Fs.length), (Fs[i].nm.toList == s.toList) = false) : placeI Fs s = -1 := by
  unfold placeI; rw [plOf_no hall, if_neg (Nat.lt_irrefl _)]
theorem placeI_lt {Fs : List Fd} {s : ByteArray} (h : plOf Fs s < Fs.length) : placeI Fs s = plOf Fs s := if_pos h
theorem placeI_ge {Fs : List Fd} {s : ByteArray} (h : ¬ plOf Fs s < Fs.length) : placeI Fs s = -1 := if_neg h

set_option maxHeartbeats 1000000 in
theorem l3Field_any (lo : Nat) (v : Value) (Fs : List Fd) (s : ByteArray) (w : World) (hv : FdsAt lo w v Fs) :
    Calls Try.prog 29 #[v, .string s] w fun e w' => e = .returned (.int .i64 (placeI Fs s)) ∧ w' = w := by
  by_cases hL : Fs = []
  · subst hL
    obtain ⟨a, cap, rfl⟩ := nil_form hv
    clear hv
    go_enter Try.func29, Try.ntmps29
    go_wp2
    go_loop [5] (fun i => i = .int .i64 0) (fun _ => 0)
    case atStart => rfl
    case round =>
      subst hrel
      go_wp2
      go_ret
      exact ⟨rfl, rfl⟩
  · obtain ⟨b, off, cap, rfl, hm, hbw, _, hc⟩ := hv.full hL
    clear hv
    unfold maxLen at hm
    go_enter Try.func29, Try.ntmps29
    go_wp2
    go_loop [5] (fun i => ∃ k : Nat, i = .int .i64 k ∧ k ≤ Fs.length ∧ ∀ i (h : i < Fs.length), i < k → (Fs[i].nm.toList == s.toList) = false) (fun i => Fs.length - (intOf i).toNat)
    case atStart => exact ⟨0, rfl, by omega, fun i _ h => by omega⟩
    case round =>
      obtain ⟨k, rfl, hk, hall⟩ := hrel
      have HA := hide hall
      clear hall
      by_cases hlt : k < Fs.length
      · obtain ⟨_, wv, hcell, _⟩ := hc k hlt
        have c0 := hcell.c0
        clear hcell
        by_cases he : (Fs[k].nm.toList == s.toList) = true
        · go_wp2
          go_ret
          exact ⟨by rw [placeI_yes hlt he HA.out]; rfl, rfl⟩
        · have he' : (Fs[k].nm.toList == s.toList) = false := by simpa using he
          clear he
          go_wp2
          go_round
          case rel => exact ⟨k + 1, by go_num, by omega, fun i h h' => by
                        by_cases e : i = k
                        · subst e; exact he'
                        · exact HA.out i h (by omega)⟩
          case measure => simp [intOf]; omega
      · go_wp2
        go_ret
        exact ⟨by rw [placeI_no fun i h => HA.out i h (by omega)]; rfl, rfl⟩

set_option maxHeartbeats 1000000 in
theorem l3Plain_any (lo : Nat) (v : Value) (Fs : List Fd) (s : ByteArray) (w : World) (hv : FdsAt lo w v Fs) :
    Calls Try.prog 27 #[v, .string s] w fun e w' => e = .returned (.bool (plainB Fs s)) ∧ w' = w := by
  have HV := hide hv
  by_cases hp : plOf Fs s < Fs.length
  · obtain ⟨b, off, cap, rfl, hm, hbw, _, hc⟩ := hv.full (by intro e; rw [e] at hp; simp at hp)
    clear hv
    unfold maxLen at hm
    obtain ⟨_, wv, hcell, _⟩ := hc _ hp
    have c1 := hcell.c1
    have HQ : Hid (plainB Fs s = !(Fs[plOf Fs s].kd == 4)) := plain_at hp
    have HP : Hid (placeI Fs s = plOf Fs s) := placeI_lt hp
    clear hcell hc
    go_enter Try.func27, Try.ntmps27
    go_wp2_with fail
    refine (l3Field_any lo _ Fs s _ HV.out).mono ?_
    rintro e w1 ⟨rfl, rfl⟩
    rw [HP.out]
    cases hk : (Fs[plOf Fs s].kd == 4) with
    | true =>
      have HQ2 : Hid (plainB Fs s = false) := by unfold Hid; rw [HQ.out, hk]; rfl
      have e4 : Fs[plOf Fs s].kd = 4 := by simpa using hk
      rw [e4] at c1
      clear e4 hk HQ HP
      go_wp2
      go_ret
      exact ⟨ret_bool HQ2.out.symm, rfl⟩
    | false =>
      have HQ2 : Hid (plainB Fs s = true) := by unfold Hid; rw [HQ.out, hk]; rfl
      have e4 : ¬ Fs[plOf Fs s].kd = 4 := by simpa using hk
      clear hk HQ HP
      go_wp2
      go_ret
      exact ⟨ret_bool (by rw [HQ2.out]; simp [e4]), rfl⟩
  · obtain ⟨a, cap, rfl⟩ := hv.form
    clear hv
    have HQ : Hid (plainB Fs s = false) := plain_no hp
    have HP : Hid (placeI Fs s = -1) := placeI_ge hp
    go_enter Try.func27, Try.ntmps27
    go_wp2_with fail
    refine (l3Field_any lo _ Fs s _ HV.out).mono ?_
    rintro e w1 ⟨rfl, rfl⟩
    rw [HP.out]
    clear HP hp
    go_wp2
    go_ret
    exact ⟨ret_bool HQ.out.symm, rfl⟩
end Go.Proofs.Ytlgakpnjicdblab
