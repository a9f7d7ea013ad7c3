import Derived.Test.YtoklnkojacdciaaG34
import Derived.Test.YtoklnkojacdciaaG35
import Derived.Test.YtoklnkojacdciaaG36
namespace Go.Proofs.Ytoklnkojacdciaa
open Go.RowKit Go.Deep

/-! both sides say the same -/
theorem zB_eq (n : Nat) : zB n = decide (n = 0) := by
  unfold zB
  rw [Bool.eq_iff_iff]
  simp
theorem pos_not (n : Nat) : decide (0 < n) = !decide (n = 0) := by
  rw [Bool.eq_iff_iff]; simp; omega
theorem pos_two (a b : Nat) : decide (0 < a + b) = !(decide (a = 0) && decide (b = 0)) := by
  rw [Bool.eq_iff_iff]; simp only [decide_eq_true_eq, Bool.not_eq_true', Bool.and_eq_false_iff, decide_eq_false_iff_not]; omega
theorem sum_three (a b c : Nat) : decide (a + b + c = 0) = (decide (a = 0) && (decide (b = 0) && decide (c = 0))) := by
  rw [Bool.eq_iff_iff]; simp only [decide_eq_true_eq, Bool.and_eq_true]; omega
theorem still_sum (a b : Nat) (d : Int) (h : 0 ≤ d) : (((a + b : Nat) : Int) + d == 0) = (decide (a = 0) && (decide (b = 0) && d == 0)) := by
  rw [Bool.eq_iff_iff]; simp only [beq_iff_eq, decide_eq_true_eq, Bool.and_eq_true]; omega
theorem valid_same (U : Rr) : validR U = validI U := by
  cases h6 : inB 0 1000000 U.hd with
  | false =>
    unfold validR validI restB
    rw [h6]
    simp
  | true =>
    have hd0 : 0 ≤ U.hd := by unfold inB at h6; simp at h6; omega
    unfold validR validI restB leadB soundB leadS tryS quietS stillB quietB
    rw [still_sum _ _ _ hd0, pos_not, pos_two, sum_three]
    simp only [zB_eq]
    generalize inB 1 5 U.of = b1
    generalize inB 1 U.of U.nu = b2
    generalize diskB U.sf = b3
    generalize diskB U.dk = b4
    generalize decide (U.he.length ≤ 400) = b5
    generalize (List.range U.he.length).all (heldB U) = b6
    generalize wishB U.wi = b7
    rw [h6]
    generalize numsB U.of U.ye = b8
    generalize slotsB U.be = b9
    generalize acksB U.of U.ac = b10
    generalize inB 1 U.dk.pr U.ba = b11
    generalize decide (U.ac.length = 0) = b12
    generalize decide (U.ye.length = 0) = b13
    generalize decide (U.be.length = 0) = b14
    generalize decide (U.he.length = 0) = b15
    generalize decide (U.wi.length = 0) = b16
    generalize (U.ba == 0) = b17
    generalize (U.hd == 0) = b18
    generalize U.up = b19
    generalize U.ld = b20
    generalize U.ty = b21
    cases b1 <;> (try rfl)
    cases b2 <;> (try rfl)
    cases b3 <;> (try rfl)
    cases b4 <;> (try rfl)
    cases b5 <;> (try rfl)
    cases b7 <;> (try (cases b6 <;> rfl))
    cases b6 <;> (try rfl)
    cases b8 <;> (try rfl)
    cases b9 <;> (try rfl)
    cases b10 <;> (try rfl)
    cases b20 <;> cases b21 <;> cases b19 <;> cases b11 <;> cases b12 <;> cases b13 <;> cases b14 <;> (try rfl) <;> cases b17 <;> (try rfl) <;> cases b15 <;> (try rfl) <;> cases b16 <;> (try rfl) <;> cases b18 <;> rfl
theorem implValidR_any (lo : Nat) (cs : List Value) (U : Rr) (w : World) (h : RrC lo w cs U) :
    Calls Try.prog 76 #[.agg cs.toArray] w fun e w' => e = .returned (.bool (validR U)) ∧ Below w.heap.size w w' := by
  rw [valid_same]
  cases ha : (ahead9 U).all id with
  | false => exact validNo_any lo cs U w h ha
  | true =>
    unfold ahead9 at ha
    simp only [List.all_cons, List.all_nil, Bool.and_true, id, Bool.and_eq_true] at ha
    obtain ⟨⟨h1, h1'⟩, h2, h3, ⟨h4, h4'⟩, h5, h6, h7, h8, h9⟩ := ha
    have e1 : (inB 1 5 U.of && inB 1 U.of U.nu) = true := by rw [h1, h1']; rfl
    have e4 : (decide (U.he.length ≤ 400) && (List.range U.he.length).all (heldB U)) = true := by rw [h4, h4']; rfl
    cases ql : U.ld with
    | true => exact valid_lead lo cs U w h e1 h2 h3 e4 h5 h6 h7 h8 h9 ql
    | false =>
      cases qt : U.ty with
      | true => exact valid_try lo cs U w h e1 h2 h3 e4 h5 h6 h7 h8 h9 ql qt
      | false => exact valid_quiet lo cs U w h e1 h2 h3 e4 h5 h6 h7 h8 h9 ql qt
end Go.Proofs.Ytoklnkojacdciaa
