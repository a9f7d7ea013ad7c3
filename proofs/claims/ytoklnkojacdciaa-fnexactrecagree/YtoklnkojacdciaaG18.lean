import Derived.Test.YtoklnkojacdciaaG11
import Derived.Test.YtoklnkojacdciaaG17
namespace Go.Proofs.Ytoklnkojacdciaa
open Go.RowKit Go.Deep

/-! spec.l22Numbers -/
def nokB (of : Int) (L : List Int) (i : Nat) : Bool := inB 1 of (L.getD i 0) && !(decide (0 < (i : Int)) && decide (L.getD i 0 ≤ L.getD (i - 1) 0))
def numsB (of : Int) (L : List Int) : Bool := (List.range L.length).all (nokB of L)

set_option maxRecDepth 20000 in
set_option maxHeartbeats 8000000 in
theorem l22Numbers_any (lo : Nat) (v : Value) (L : List Int) (of : Int) (w : World) (hv : RisAt lo w v L) :
    Calls Try.prog 69 #[v, .int .i64 of] w fun e w' => e = .returned (.bool (numsB of L)) ∧ Below w.heap.size w w' := by
  have HV := hide hv
  have hm := hv.max
  unfold maxLen at hm
  obtain ⟨a, cap, rfl⟩ := hv.form
  clear hv
  have HE1 : Hid (numsB of L = (List.range L.length).all (nokB of L)) := rfl
  go_enter Try.func69, Try.ntmps69
  go_wp2
  go_loopw [5] (fun i wr => ∃ k : Nat, i = .int .i64 k ∧ k ≤ L.length ∧ Below w.heap.size w wr ∧ ∀ j, j < k → nokB of L j = true) (fun i _ => L.length - (intOf i).toNat)
  case atStart => exact ⟨0, rfl, by omega, Below.refl _ _, fun j h => by omega⟩
  case round =>
    obtain ⟨k, rfl, hk, hb, hall⟩ := hrel
    have HAL := hide hall
    have HBr := hide hb
    clear hall hb
    by_cases hlt : k < L.length
    · obtain ⟨b, off, rfl, hbw, -, hc⟩ := HV.out.full' (by omega)
      obtain ⟨x, hx⟩ : ∃ x, x = L[k] := ⟨_, rfl⟩
      obtain ⟨p, hp⟩ : ∃ p, p = L.getD (k - 1) 0 := ⟨_, rfl⟩
      have hgx : L.getD k 0 = x := by rw [hx, List.getD_eq_getElem?_getD, List.getElem?_eq_getElem hlt]; rfl
      have HDK : Hid (nokB of L k = (inB 1 of x && !(decide (0 < (k : Int)) && decide (x ≤ p)))) := by unfold Hid nokB; rw [hgx, ← hp]
      have HC : Hid (wr.cell? ⟨b, off + k, none⟩ = some (.int .i64 x)) := by unfold Hid; rw [HBr.out.cell (p := ⟨b, off + k, none⟩) hbw, hx]; exact (hc k hlt).2
      have HP : Hid (0 < k → wr.cell? ⟨b, off + (k - 1), none⟩ = some (.int .i64 p)) := by
        unfold Hid
        intro hk0
        rw [HBr.out.cell (p := ⟨b, off + (k - 1), none⟩) hbw, hp, List.getD_eq_getElem?_getD, List.getElem?_eq_getElem (by omega)]
        exact (hc (k - 1) (by omega)).2
      clear hc hx hp hgx
      go_wp2
      go_cut [34] (fun c wc => c = .bool (!(nokB of L k)) ∧ Below wr.heap.size wr wc)
      case first =>
        have xn : Nonempty (In (Up wr)) := ⟨⟨wr, Below.refl _ _⟩⟩
        have xs := fun (X : In (Up wr)) => in_self X
        have s0 : ∀ X : In (Up wr), _ := fun X => Up.cell X HC.out
        have i0 : (0 : Int) ≤ (k : Int) := by omega
        have i1 : (k : Int) < (L.length : Int) := by omega
        refine wp_region_class (Up wr) (by kernel_rfl) (by kernel_rfl) ((Below.refl _ _).drew) ?_
        cases q1 : inB 1 of x with
        | false =>
          repeat (go_big_quiet_step ((go_at_call 20; rename_i Y; exact (in21_any _ _ _ _).mono fun _ _ h => ⟨h.1, Up.next Y (by rw [h.2]; exact Below.refl _ _)⟩)))
          refine wpQuiet_nil ?_
          intro wn hw
          obtain ⟨X, hX⟩ := hw
          have HWN : Below wr.heap.size wr wn := by rw [hX]; exact X.h
          clear hX X s0 xs xn
          go_wp2
          go_meet
          exact ⟨congrArg Value.bool (by rw [HDK.out, q1]; rfl), HWN⟩
        | true =>
          by_cases q2 : 0 < k
          · have d2 : decide (0 < (k : Int)) = true := by simp; omega
            have s1 : ∀ X : In (Up wr), _ := fun X => Up.cell X (HP.out q2)
            have j0 : (0 : Int) ≤ (k : Int) - 1 := by omega
            have j1 : (k : Int) - 1 < (L.length : Int) := by omega
            have jn : ((k : Int) - 1).toNat = k - 1 := by omega
            cases q3 : decide (x ≤ p) with
            | true =>
              repeat (go_big_quiet_step ((go_at_call 20; rename_i Y; exact (in21_any _ _ _ _).mono fun _ _ h => ⟨h.1, Up.next Y (by rw [h.2]; exact Below.refl _ _)⟩)))
              refine wpQuiet_nil ?_
              intro wn hw
              obtain ⟨X, hX⟩ := hw
              have HWN : Below wr.heap.size wr wn := by rw [hX]; exact X.h
              clear hX X s0 s1 xs xn
              go_wp2
              go_meet
              exact ⟨congrArg Value.bool (by rw [HDK.out, q1, d2, q3]; rfl), HWN⟩
            | false =>
              repeat (go_big_quiet_step ((go_at_call 20; rename_i Y; exact (in21_any _ _ _ _).mono fun _ _ h => ⟨h.1, Up.next Y (by rw [h.2]; exact Below.refl _ _)⟩)))
              refine wpQuiet_nil ?_
              intro wn hw
              obtain ⟨X, hX⟩ := hw
              have HWN : Below wr.heap.size wr wn := by rw [hX]; exact X.h
              clear hX X s0 s1 xs xn
              go_wp2
              go_meet
              exact ⟨congrArg Value.bool (by rw [HDK.out, q1, d2, q3]; rfl), HWN⟩
          · have d2 : decide (0 < (k : Int)) = false := by simp; omega
            repeat (go_big_quiet_step ((go_at_call 20; rename_i Y; exact (in21_any _ _ _ _).mono fun _ _ h => ⟨h.1, Up.next Y (by rw [h.2]; exact Below.refl _ _)⟩)))
            refine wpQuiet_nil ?_
            intro wn hw
            obtain ⟨X, hX⟩ := hw
            have HWN : Below wr.heap.size wr wn := by rw [hX]; exact X.h
            clear hX X s0 xs xn
            go_wp2
            go_meet
            exact ⟨congrArg Value.bool (by rw [HDK.out, q1, d2]; rfl), HWN⟩
      case rest =>
      obtain ⟨rfl, hbc⟩ := hcut
      have HBc : Hid (Below w.heap.size w wc) := bt HBr.out hbc
      clear hbc
      cases h7 : nokB of L k with
      | false =>
        have HNo : Hid (numsB of L = false) := by unfold Hid; rw [HE1.out]; exact range_not hlt h7
        go_wp2
        go_ret
        exact ⟨ret_bool HNo.out.symm, HBc.out⟩
      | true =>
        have HT := hide h7
        go_wp2
        go_roundw
        case rel => exact ⟨k + 1, by go_num, by omega, HBc.out, fun j hj => by
                      by_cases e : j = k
                      · rw [e]; exact HT.out
                      · exact HAL.out j (by omega)⟩
        case measure => simp [intOf]; omega
    · have HE2 : Hid (numsB of L = true) := by unfold Hid; rw [HE1.out]; exact range_all (fun i hi => HAL.out i (by omega))
      go_wp2
      go_ret
      exact ⟨ret_bool HE2.out.symm, HBr.out⟩
end Go.Proofs.Ytoklnkojacdciaa
