import Derived.Test.YtoklnkojacdciaaG19
namespace Go.Proofs.Ytoklnkojacdciaa
open Go.RowKit Go.Deep

/-! spec.l22AcksOk -/
def ackA (A : List Ra) (i : Nat) : Ra := A.getD i ⟨0, []⟩
def aokB (of : Int) (A : List Ra) (i : Nat) : Bool := inB 1 120 (ackA A i).ix && (numsB of (ackA A i).fr && !(decide (0 < (i : Int)) && decide ((ackA A i).ix ≤ (ackA A (i - 1)).ix)))
def acksB (of : Int) (A : List Ra) : Bool := (List.range A.length).all (aokB of A)
theorem ackA_at {A : List Ra} {k : Nat} (h : k < A.length) : ackA A k = A[k] := by
  unfold ackA
  rw [List.getD_eq_getElem?_getD, List.getElem?_eq_getElem h]; rfl

set_option maxRecDepth 20000 in
set_option maxHeartbeats 8000000 in
theorem l22Acks_any (lo : Nat) (v : Value) (A : List Ra) (of : Int) (w : World) (hv : RasAt lo w v A) :
    Calls Try.prog 71 #[v, .int .i64 of] w fun e w' => e = .returned (.bool (acksB of A)) ∧ Below w.heap.size w w' := by
  have HV := hide hv
  have hm := hv.max
  unfold maxLen at hm
  obtain ⟨a, cap, rfl⟩ := hv.form
  clear hv
  have HE1 : Hid (acksB of A = (List.range A.length).all (aokB of A)) := rfl
  go_enter Try.func71, Try.ntmps71
  go_wp2
  go_loopw [5] (fun i wr => ∃ k : Nat, i = .int .i64 k ∧ k ≤ A.length ∧ Below w.heap.size w wr ∧ ∀ j, j < k → aokB of A j = true) (fun i _ => A.length - (intOf i).toNat)
  case atStart => exact ⟨0, rfl, by omega, Below.refl _ _, fun j h => by omega⟩
  case round =>
    obtain ⟨k, rfl, hk, hb, hall⟩ := hrel
    have HAL := hide hall
    have HBr := hide hb
    clear hall hb
    by_cases hlt : k < A.length
    · obtain ⟨b, off, rfl, hbw, -, hc⟩ := HV.out.full' (by omega)
      obtain ⟨x, hx⟩ : ∃ x, x = ackA A k := ⟨_, rfl⟩
      obtain ⟨p, hp⟩ : ∃ p, p = (ackA A (k - 1)).ix := ⟨_, rfl⟩
      have HDK : Hid (aokB of A k = (inB 1 120 x.ix && (numsB of x.fr && !(decide (0 < (k : Int)) && decide (x.ix ≤ p))))) := by unfold Hid aokB; rw [← hx, ← hp]
      obtain ⟨cs, hr, a0, k0, rfl, hf⟩ := hc k hlt
      rw [← ackA_at hlt, ← hx] at hf
      rw [← ackA_at hlt, ← hx] at hr
      have HF : Hid (RisAt lo wr (.slice a0 x.fr.length k0) x.fr) := hf.l0.below HBr.out
      have HR := rng_below hr HBr.out hbw
      have HC0 : Hid (wr.cell? ⟨b, off + k * 2, none⟩ = some (.int .i64 x.ix)) := HR 0 _ rfl
      have HC1 : Hid (wr.cell? ⟨b, off + k * 2 + 1, none⟩ = some (.slice a0 x.fr.length k0)) := HR 1 _ rfl
      have HP : Hid (0 < k → wr.cell? ⟨b, off + (k - 1) * 2, none⟩ = some (.int .i64 p)) := by
        unfold Hid
        intro hk0
        obtain ⟨cs', hr', a1, k1, rfl, hf'⟩ := hc (k - 1) (by omega)
        have HR' := rng_below hr' HBr.out hbw
        have := HR' 0 _ rfl
        rw [hp, ackA_at (by omega)]
        exact this
      clear hc hx hp hr hf HR
      go_wp2
      go_cut [46] (fun c wc => c = .bool (!(aokB of A k)) ∧ Below wr.heap.size wr wc)
      case first =>
        have xn : Nonempty (In (Up wr)) := ⟨⟨wr, Below.refl _ _⟩⟩
        have xs := fun (X : In (Up wr)) => in_self X
        have s0 : ∀ X : In (Up wr), _ := fun X => Up.cell X HC0.out
        have s2 : ∀ X : In (Up wr), _ := fun X => Up.cell X HC1.out
        have i0 : (0 : Int) ≤ (k : Int) := by omega
        have i1 : (k : Int) < (A.length : Int) := by omega
        refine wp_region_class (Up wr) (by kernel_rfl) (by kernel_rfl) ((Below.refl _ _).drew) ?_
        cases q1 : inB 1 120 x.ix with
        | false =>
          repeat (go_big_quiet_step (first | (go_at_call 20; rename_i Y; exact (in21_any _ _ _ _).mono fun _ _ h => ⟨h.1, Up.next Y (by rw [h.2]; exact Below.refl _ _)⟩) | (go_at_call 69; rename_i Y; exact (l22Numbers_any lo _ x.fr of _ (HF.out.below Y.h)).mono fun _ _ h => ⟨h.1, Up.next Y h.2⟩)))
          refine wpQuiet_nil ?_
          intro wn hw
          obtain ⟨X, hX⟩ := hw
          have HWN : Below wr.heap.size wr wn := by rw [hX]; exact X.h
          clear hX X s0 s2 xs xn
          go_wp2
          go_meet
          exact ⟨congrArg Value.bool (by rw [HDK.out, q1]; rfl), HWN⟩
        | true =>
          cases q4 : numsB of x.fr with
          | false =>
            repeat (go_big_quiet_step (first | (go_at_call 20; rename_i Y; exact (in21_any _ _ _ _).mono fun _ _ h => ⟨h.1, Up.next Y (by rw [h.2]; exact Below.refl _ _)⟩) | (go_at_call 69; rename_i Y; exact (l22Numbers_any lo _ x.fr of _ (HF.out.below Y.h)).mono fun _ _ h => ⟨h.1, Up.next Y h.2⟩)))
            refine wpQuiet_nil ?_
            intro wn hw
            obtain ⟨X, hX⟩ := hw
            have HWN : Below wr.heap.size wr wn := by rw [hX]; exact X.h
            clear hX X s0 s2 xs xn
            go_wp2
            go_meet
            exact ⟨congrArg Value.bool (by rw [HDK.out, q1, q4]; rfl), HWN⟩
          | true =>
          by_cases q2 : 0 < k
          · have d2 : decide (0 < (k : Int)) = true := by simp; omega
            have s1 : ∀ X : In (Up wr), _ := fun X => Up.cell X (HP.out q2)
            have j0 : (0 : Int) ≤ (k : Int) - 1 := by omega
            have j1 : (k : Int) - 1 < (A.length : Int) := by omega
            have jn : ((k : Int) - 1).toNat = k - 1 := by omega
            cases q3 : decide (x.ix ≤ p) with
            | true =>
              repeat (go_big_quiet_step (first | (go_at_call 20; rename_i Y; exact (in21_any _ _ _ _).mono fun _ _ h => ⟨h.1, Up.next Y (by rw [h.2]; exact Below.refl _ _)⟩) | (go_at_call 69; rename_i Y; exact (l22Numbers_any lo _ x.fr of _ (HF.out.below Y.h)).mono fun _ _ h => ⟨h.1, Up.next Y h.2⟩)))
              refine wpQuiet_nil ?_
              intro wn hw
              obtain ⟨X, hX⟩ := hw
              have HWN : Below wr.heap.size wr wn := by rw [hX]; exact X.h
              clear hX X s0 s1 s2 xs xn
              go_wp2
              go_meet
              exact ⟨congrArg Value.bool (by rw [HDK.out, q1, q4, d2, q3]; rfl), HWN⟩
            | false =>
              repeat (go_big_quiet_step (first | (go_at_call 20; rename_i Y; exact (in21_any _ _ _ _).mono fun _ _ h => ⟨h.1, Up.next Y (by rw [h.2]; exact Below.refl _ _)⟩) | (go_at_call 69; rename_i Y; exact (l22Numbers_any lo _ x.fr of _ (HF.out.below Y.h)).mono fun _ _ h => ⟨h.1, Up.next Y h.2⟩)))
              refine wpQuiet_nil ?_
              intro wn hw
              obtain ⟨X, hX⟩ := hw
              have HWN : Below wr.heap.size wr wn := by rw [hX]; exact X.h
              clear hX X s0 s1 s2 xs xn
              go_wp2
              go_meet
              exact ⟨congrArg Value.bool (by rw [HDK.out, q1, q4, d2, q3]; rfl), HWN⟩
          · have d2 : decide (0 < (k : Int)) = false := by simp; omega
            repeat (go_big_quiet_step (first | (go_at_call 20; rename_i Y; exact (in21_any _ _ _ _).mono fun _ _ h => ⟨h.1, Up.next Y (by rw [h.2]; exact Below.refl _ _)⟩) | (go_at_call 69; rename_i Y; exact (l22Numbers_any lo _ x.fr of _ (HF.out.below Y.h)).mono fun _ _ h => ⟨h.1, Up.next Y h.2⟩)))
            refine wpQuiet_nil ?_
            intro wn hw
            obtain ⟨X, hX⟩ := hw
            have HWN : Below wr.heap.size wr wn := by rw [hX]; exact X.h
            clear hX X s0 s2 xs xn
            go_wp2
            go_meet
            exact ⟨congrArg Value.bool (by rw [HDK.out, q1, q4, d2]; rfl), HWN⟩
      case rest =>
      obtain ⟨rfl, hbc⟩ := hcut
      have HBc : Hid (Below w.heap.size w wc) := bt HBr.out hbc
      clear hbc
      cases h7 : aokB of A k with
      | false =>
        have HNo : Hid (acksB of A = false) := by unfold Hid; rw [HE1.out]; exact range_not hlt h7
        go_wp2
        go_ret
        exact ⟨ret_bool HNo.out.symm, HBc.out⟩
      | true =>
        have HT := hide h7
        go_wp2
        go_roundw
        case rel => exact ⟨k + 1, by go_num, by omega, HBc.out, fun j hj => by
                      by_cases e : j = k
                      · rw [e]; exact HT.out
                      · exact HAL.out j (by omega)⟩
        case measure => simp [intOf]; omega
    · have HE2 : Hid (acksB of A = true) := by unfold Hid; rw [HE1.out]; exact range_all (fun i hi => HAL.out i (by omega))
      go_wp2
      go_ret
      exact ⟨ret_bool HE2.out.symm, HBr.out⟩
end Go.Proofs.Ytoklnkojacdciaa
