
import Derived.Test.YthecacabcgaenaaIK2
import Derived.Test.YthecacabcgaenaaIB1
namespace Go.Proofs.Ythecacabcgaenaa
open Go.RowKit Go.Deep Go.Maps

def ckSv (now : Int) (x : Sv) : Nat → Bool
  | 0 => nmB x.nm && inB 1 now x.ve
  | 1 => inB 1 1000000 x.im && inB 1 1000000 x.nx
  | 2 => inB 0 10 x.wa && (inB 0 10 x.dn && (inB 0 10 x.ov && (decide (0 < x.dn) || decide (0 < x.ov))))
  | 3 => inB 0 1000000 x.pr && (inB 0 1000000 x.ld && (inB 0 10 x.ms && (inB 0 x.ms x.ls && inB 0 3 x.cl)))
  | _ => decide (0 < x.pr) || ((x.ls == 0) && ((x.ms == 0) && ((x.ld == 0) && (x.cl == 0))))
theorem inB_iff {lo hi n : Int} : inB lo hi n = true ↔ lo ≤ n ∧ n ≤ hi := by unfold inB; simp
theorem ckSv_all (now : Int) (x : Sv) : svB now x = (ckSv now x 0 && (ckSv now x 1 && (ckSv now x 2 && (ckSv now x 3 && ckSv now x 4)))) := by
  have h1 : (x.dn + x.ov == 0) = decide (x.dn + x.ov = 0) := by by_cases h : x.dn + x.ov = 0 <;> simp [h]
  simp only [svB, ckSv, perB, h1]
  cases nmB x.nm with
  | false => rfl
  | true =>
    rw [Bool.eq_iff_iff]
    by_cases hp : x.pr = 0
    · simp only [hp, Bool.true_and, Bool.and_eq_true, Bool.or_eq_true, inB_iff, decide_eq_true_iff, Bool.not_eq_true', decide_eq_false_iff_not, beq_self_eq_true, if_true, beq_iff_eq]
      constructor <;> intro h <;> omega
    · have hp' : (x.pr == 0) = false := by simpa using hp
      simp only [hp', Bool.true_and, Bool.and_eq_true, Bool.or_eq_true, inB_iff, decide_eq_true_iff, Bool.not_eq_true', decide_eq_false_iff_not, Bool.false_eq_true, if_false, beq_iff_eq]
      constructor <;> intro h <;> omega
def ckCp (B : Sb) (x : Cp) : Nat → Bool
  | 0 => servB B x
  | 1 => inB 1 B.now x.ve && (inB 1 1000000 x.im && inB 1 4 x.st)
  | _ => if x.st == 1 then x.be.toList.isEmpty else hasBe B.bs x.be
theorem ckCp_all (B : Sb) (x : Cp) : cpB B x = (ckCp B x 0 && (ckCp B x 1 && ckCp B x 2)) := by
  simp only [cpB, ckCp, servB, cpT]
  cases svF B.ss x.se with
  | none => rfl
  | some y => simp only [Bool.and_assoc]
def ckBe (x : Be) : Nat → Bool
  | _ => nmB x.nm
theorem and5 {f : Nat → Bool} {b : Bool} (h : b = (f 0 && (f 1 && (f 2 && (f 3 && f 4))))) : (∀ j, j < 5 → f j = true) → b = true := fun hf => by
  rw [h, hf 0 (by omega), hf 1 (by omega), hf 2 (by omega), hf 3 (by omega), hf 4 (by omega)]; rfl
theorem and5n {f : Nat → Bool} {b : Bool} (h : b = (f 0 && (f 1 && (f 2 && (f 3 && f 4))))) {j : Nat} (hj : j < 5) (hf : f j = false) : b = false := by
  have hj' : j = 0 ∨ j = 1 ∨ j = 2 ∨ j = 3 ∨ j = 4 := by omega
  rcases hj' with rfl | rfl | rfl | rfl | rfl <;> simp [h, hf]
theorem and3 {f : Nat → Bool} {b : Bool} (h : b = (f 0 && (f 1 && f 2))) : (∀ j, j < 3 → f j = true) → b = true := fun hf => by
  rw [h, hf 0 (by omega), hf 1 (by omega), hf 2 (by omega)]; rfl
theorem and3n {f : Nat → Bool} {b : Bool} (h : b = (f 0 && (f 1 && f 2))) {j : Nat} (hj : j < 3) (hf : f j = false) : b = false := by
  have hj' : j = 0 ∨ j = 1 ∨ j = 2 := by omega
  rcases hj' with rfl | rfl | rfl <;> simp [h, hf]
theorem and1 {f : Nat → Bool} {b : Bool} (h : b = f 0) : (∀ j, j < 1 → f j = true) → b = true := fun hf => by rw [h, hf 0 (by omega)]
theorem and1n {f : Nat → Bool} {b : Bool} (h : b = f 0) {j : Nat} (hj : j < 1) (hf : f j = false) : b = false := by
  have hj' : j = 0 := by omega
  subst hj'
  rw [h, hf]

end Go.Proofs.Ythecacabcgaenaa
