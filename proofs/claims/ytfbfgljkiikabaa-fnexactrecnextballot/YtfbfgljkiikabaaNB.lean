
import Derived.Test.YtfbfgljkiikabaaRPn
import Derived.Test.YtfbfgljkiikabaaRQ0
namespace Go.Proofs.Ytfbfgljkiikabaa
open Go.RowKit Go.Deep

/-- the least ballot above a that leaves n -/
def nbR (a n f : Int) : Int := if a / f * f + n ≤ a then a / f * f + n + f else a / f * f + n
def nbF (a n f : Int) : Int := if (inB 1 5 f && inB 1 f n && inB 0 1000000 a) = true then (if 1000000 < nbR a n f then 0 else nbR a n f) else 0
theorem inB_dec {lo hi n : Int} (h : inB lo hi n = true) : lo ≤ n ∧ n ≤ hi := by unfold inB at h; simpa using h
theorem nbR_fact {a n f : Int} (hf : 1 ≤ f ∧ f ≤ 5) (hn : 1 ≤ n ∧ n ≤ f) (_ha : 0 ≤ a) : a < nbR a n f ∧ nbR a n f ≤ a + f ∧ nbR a n f % f = n % f := by
  unfold nbR
  rcases (by omega : f = 1 ∨ f = 2 ∨ f = 3 ∨ f = 4 ∨ f = 5) with rfl | rfl | rfl | rfl | rfl <;> split <;> omega
theorem nb_same {a n f x : Int} (hf : 1 ≤ f ∧ f ≤ 5) (hn : 1 ≤ n ∧ n ≤ f) (ha : 0 ≤ a) (h1 : a < x) (h2 : x ≤ nbR a n f) (h : x % f = n % f) : x = nbR a n f := by
  obtain ⟨p, q, r⟩ := nbR_fact hf hn ha
  generalize nbR a n f = z at *
  rcases (by omega : f = 1 ∨ f = 2 ∨ f = 3 ∨ f = 4 ∨ f = 5) with rfl | rfl | rfl | rfl | rfl <;> omega

set_option maxRecDepth 20000 in
set_option maxHeartbeats 4000000 in
theorem specNext_any (a n f : Int) (w : World) :
    Calls Try.prog 6 #[.int .i64 a, .int .i64 n, .int .i64 f] w fun e w' => e = .returned (.int .i64 (nbF a n f)) ∧ w' = w := by
  cases h1 : inB 1 5 f with
  | false =>
    have HV : Hid (nbF a n f = 0) := by unfold Hid nbF; rw [h1]; rfl
    go_enter Try.func6, Try.ntmps6
    go_wp2_with (go_at_call 17; refine (in21_any _ _ _ _).mono ?_; rintro e w' ⟨rfl, rfl⟩)
    go_ret
    exact ⟨by rw [HV.out]; rfl, rfl⟩
  | true =>
  cases h2 : inB 1 f n with
  | false =>
    have HV : Hid (nbF a n f = 0) := by unfold Hid nbF; rw [h1, h2]; rfl
    go_enter Try.func6, Try.ntmps6
    go_wp2_with (go_at_call 17; refine (in21_any _ _ _ _).mono ?_; rintro e w' ⟨rfl, rfl⟩)
    go_ret
    exact ⟨by rw [HV.out]; rfl, rfl⟩
  | true =>
  cases h3 : inB 0 1000000 a with
  | false =>
    have HV : Hid (nbF a n f = 0) := by unfold Hid nbF; rw [h1, h2, h3]; rfl
    go_enter Try.func6, Try.ntmps6
    go_wp2_with (go_at_call 17; refine (in21_any _ _ _ _).mono ?_; rintro e w' ⟨rfl, rfl⟩)
    go_ret
    exact ⟨by rw [HV.out]; rfl, rfl⟩
  | true =>
  have q1 := inB_dec h1
  have q2 := inB_dec h2
  have q3 := inB_dec h3
  have HV : Hid (nbF a n f = if 1000000 < nbR a n f then 0 else nbR a n f) := by unfold Hid nbF; rw [h1, h2, h3]; rfl
  have HD : Hid (nbR a n f = if a / f * f + n ≤ a then a / f * f + n + f else a / f * f + n) := rfl
  have hdiv : a.tdiv f = a / f := Int.tdiv_eq_ediv_of_nonneg (by omega)
  have HW : Hid (∀ x, (if 1000000 < nbR a n f then 0 else nbR a n f) = x → nbF a n f = x) := fun x h => HV.out.trans h
  rcases (by omega : f = 1 ∨ f = 2 ∨ f = 3 ∨ f = 4 ∨ f = 5) with rfl | rfl | rfl | rfl | rfl
  all_goals
    rw [hdiv] at *
    go_enter Try.func6, Try.ntmps6
    go_wp2_with (go_at_call 17; refine (in21_any _ _ _ _).mono ?_; rintro e w' ⟨rfl, rfl⟩)
    all_goals
      go_ret
      refine ⟨ret_int ?_, rfl⟩
      rw [HV.out]
      unfold nbR
      repeat' split
      all_goals omega

set_option maxRecDepth 20000 in
set_option maxHeartbeats 4000000 in
theorem implNext_any (a n f : Int) (w : World) :
    Calls Try.prog 7 #[.int .i64 a, .int .i64 n, .int .i64 f] w fun e w' => e = .returned (.int .i64 (nbF a n f)) ∧ Below w.heap.size w w' := by
  cases h1 : (inB 1 5 f && inB 1 f n) with
  | false =>
    have HV : Hid (nbF a n f = 0) := by unfold Hid nbF; rw [h1]; rfl
    go_enter Try.func7, Try.ntmps7
    go_wp2_with (first | (go_at_call 18; refine (numberI_any _ _ _).mono ?_; rw [h1]; rintro e w' ⟨rfl, rfl⟩) | (go_at_call 19; refine (within_any _ _ _ _).mono ?_; rintro e w' ⟨rfl, rfl⟩))
    go_ret
    exact ⟨by rw [HV.out]; rfl, Below.refl _ _⟩
  | true =>
  cases h3 : inB 0 1000000 a with
  | false =>
    have HV : Hid (nbF a n f = 0) := by unfold Hid nbF; rw [h1, h3]; rfl
    go_enter Try.func7, Try.ntmps7
    go_wp2_with (first | (go_at_call 18; refine (numberI_any _ _ _).mono ?_; rw [h1]; rintro e w' ⟨rfl, rfl⟩) | (go_at_call 19; refine (within_any _ _ _ _).mono ?_; rintro e w' ⟨rfl, rfl⟩))
    go_ret
    exact ⟨by rw [HV.out]; rfl, Below.refl _ _⟩
  | true =>
  have q1 : 1 ≤ f ∧ f ≤ 5 := inB_dec (Bool.and_eq_true_iff.1 h1).1
  have q2 : 1 ≤ n ∧ n ≤ f := inB_dec (Bool.and_eq_true_iff.1 h1).2
  have q3 : 0 ≤ a ∧ a ≤ 1000000 := inB_dec h3
  have HV : Hid (nbF a n f = if 1000000 < nbR a n f then 0 else nbR a n f) := by unfold Hid nbF; rw [h1, h3]; rfl
  have HF := hide (nbR_fact q1 q2 q3.1)
  have HS : Hid (∀ x, a < x → x ≤ nbR a n f → x % f = n % f → x = nbR a n f) := fun x => nb_same q1 q2 q3.1
  generalize nbR a n f = z at *
  have q4 := HF.out.1
  have q5 := HF.out.2.1
  have hn : n.tmod f = n % f := Int.tmod_eq_emod_of_nonneg (by omega)
  go_enter Try.func7, Try.ntmps7
  go_wp2_with (first | (go_at_call 18; refine (numberI_any _ _ _).mono ?_; rw [h1]; rintro e w' ⟨rfl, rfl⟩) | (go_at_call 19; refine (within_any _ _ _ _).mono ?_; rintro e w' ⟨rfl, rfl⟩))
  go_loopw [7] (fun i wr => ∃ x : Int, i = .int .i64 x ∧ a < x ∧ x ≤ z ∧ Below w'.heap.size w' wr) (fun i _ => (z - intOf i).toNat)
  case atStart => exact ⟨a + 1, rfl, by omega, by omega, Below.refl _ _⟩
  case round =>
    obtain ⟨x, rfl, hx1, hx2, hb⟩ := hrel
    have HB := hide hb
    clear hb
    have hx : x.tmod f = x % f := Int.tmod_eq_emod_of_nonneg (by omega)
    by_cases he : x % f = n % f
    · have HZ := hide (HS.out x hx1 hx2 he)
      have d0 : (x % f != n % f) = false := by rw [he]; simp
      clear he
      go_upto_region 4 with fail
      go_quiet (fail)
      go_wp2
      all_goals
        go_ret
        refine ⟨ret_int ?_, below_drewN HB.out _⟩
        rw [HV.out, ← HZ.out]
        split <;> omega
    · have d0 : (x % f != n % f) = true := by simpa using he
      have hxz : x < z := by
        have : x ≠ z := fun e => he (e ▸ HF.out.2.2)
        omega
      clear he
      go_upto_region 4 with fail
      go_quiet (fail)
      go_wp2
      exact ⟨⟨x + 1, rfl, by omega, by omega, below_drewN HB.out _⟩, by simp [intOf]; omega⟩

set_option maxRecDepth 20000 in
set_option maxHeartbeats 4000000 in
theorem law_next (a n f : Int) (w : World) :
    Calls Try.prog 3 #[.int .i64 a, .int .i64 n, .int .i64 f] w fun e w' => e = .returned (.bool true) ∧ Below w.heap.size w w' := by
  go_enter Try.func3, Try.ntmps3
  go_wp2_with (first | (go_at_call 6; refine (specNext_any _ _ _ _).mono ?_; rintro e w' ⟨rfl, rfl⟩) | (go_at_call 7; refine (implNext_any _ _ _ _).mono ?_; rintro e w2 ⟨rfl, hb⟩; have HB := hide hb; clear hb))
  go_ret
  exact ⟨rfl, HB.out⟩
end Go.Proofs.Ytfbfgljkiikabaa
