import Derived.Test.YtfohnageehneoaaGreatUAK
import Derived.Test.YtfohnageehneoaaGreatUHA
import Derived.Test.YtfohnageehneoaaGreatUOPB
import Derived.Test.YtfohnageehneoaaGreatUTE
import Derived.Handy
import Derived.Test.YtfohnageehneoaaGreatUTD
import Derived.Test.YtfohnageehneoaaGreatUDA
import Derived.Test.YtfohnageehneoaaGreatUA1
namespace Go.Proofs.YtfohnageehneoaaGreat
open Go.RowKit Go.Deep

/-! what is asked: what is not used is not set -/
def ruNo (n : Nat) (rk rt rp : ByteArray) : Bool := decide (n = 0) && rk.toList.isEmpty && rt.toList.isEmpty && rp.toList.isEmpty
def noB (kd nm tm : ByteArray) (n0 n1 : Nat) (seen : Int) (hold tw : ByteArray) (n2 : Nat) (rk rt rp : ByteArray) (num : Int) : Bool :=
  kd.toList.isEmpty && nm.toList.isEmpty && tm.toList.isEmpty && decide (n0 = 0) && decide (n1 = 0) && decide (seen = 0) && hold.toList.isEmpty && tw.toList.isEmpty && ruNo n2 rk rt rp && decide (num = 0)
theorem int_zero (n : Nat) : ((n : Int) == 0) = decide (n = 0) := by
  by_cases h : n = 0
  · subst h; rfl
  · rw [decide_eq_false h]; simp; omega
theorem int_zero' (n : Int) : (n == 0) = decide (n = 0) := by
  by_cases h : n = 0
  · subst h; rfl
  · rw [decide_eq_false h]; simp; omega

set_option maxRecDepth 20000 in
set_option maxHeartbeats 1000000 in
theorem rulesNothing_any (a : Option Addr) (n c : Nat) (rk rt rp : ByteArray) (w : World) :
    Calls Tryz.prog 230 #[.agg #[.slice a n c, .string rk, .string rt, .string rp]] w fun e w' => e = .returned (.bool (ruNo n rk rt rp)) ∧ Below w.heap.size w w' := by
  have hz := int_zero n
  go_enter Tryz.func230, Tryz.ntmps230
  go_wp2
  all_goals go_ret
  all_goals exact ⟨ret_bool (by simp_all [ruNo]), one_al _ _⟩

section
variable (who : ByteArray) (verb : Int) (kd nm tm : ByteArray) (a0 : Option Addr) (n0 k0 : Nat) (a1 : Option Addr) (n1 k1 : Nat) (seen : Int) (hold tw : ByteArray) (a2 : Option Addr) (n2 k2 : Nat) (rk rt rp : ByteArray) (num : Int) (w : World)

set_option maxRecDepth 20000 in
set_option maxHeartbeats 4000000 in
theorem asksNothing_any :
    Calls Tryz.prog 196 #[.agg #[.string who, .int .i64 verb, .string kd, .string nm, .string tm, .slice a0 n0 k0, .slice a1 n1 k1, .int .i64 seen, .string hold, .string tw, .slice a2 n2 k2, .string rk, .string rt, .string rp, .int .i64 num]] w
      fun e w' => e = .returned (.bool (noB kd nm tm n0 n1 seen hold tw n2 rk rt rp num)) ∧ Below w.heap.size w w' := by
  have hz0 := int_zero n0
  have hz1 := int_zero n1
  have hz2 := int_zero' seen
  have hz3 := int_zero' num
  go_enter Tryz.func196, Tryz.ntmps196
  go_wp2_with (go_at_call 230; refine (rulesNothing_any _ _ _ _ _ _ _).mono ?_; rintro e w1 ⟨rfl, hb1⟩; have HB1 : Hid (Below w.heap.size w w1) := (one_al _ _).trans (hb1.mono (by simp)); have c14 : w1.cell? ⟨w.heap.size, 14, none⟩ = some (.int .i64 num) := (hb1.cell (p := ⟨w.heap.size, 14, none⟩) (by simp)).trans (by simp); clear hb1)
  all_goals go_ret
  all_goals first | exact ⟨ret_bool (by simp_all [noB]), HB1.out⟩ | exact ⟨ret_bool (by simp_all [noB]), one_al _ _⟩

set_option maxRecDepth 20000 in
set_option maxHeartbeats 4000000 in
theorem l8Nothing_any :
    Calls Tryz.prog 187 #[.agg #[.string who, .int .i64 verb, .string kd, .string nm, .string tm, .slice a0 n0 k0, .slice a1 n1 k1, .int .i64 seen, .string hold, .string tw, .slice a2 n2 k2, .string rk, .string rt, .string rp, .int .i64 num]] w
      fun e w' => e = .returned (.bool (noB kd nm tm n0 n1 seen hold tw n2 rk rt rp num)) ∧ Below w.heap.size w w' := by
  have hz0 := int_zero n0
  have hz1 := int_zero n1
  have hz2 := int_zero' seen
  have hz3 := int_zero' num
  have hz4 := int_zero n2
  go_enter Tryz.func187, Tryz.ntmps187
  go_wp2
  all_goals go_ret
  all_goals exact ⟨ret_bool (by simp_all [noB, ruNo]), one_al _ _⟩
end
end Go.Proofs.YtfohnageehneoaaGreat

