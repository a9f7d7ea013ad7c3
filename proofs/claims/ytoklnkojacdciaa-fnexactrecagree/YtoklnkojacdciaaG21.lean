import Derived.Test.YtoklnkojacdciaaG12
import Derived.Test.YtoklnkojacdciaaG20
namespace Go.Proofs.Ytoklnkojacdciaa
open Go.RowKit Go.Deep

/-! spec.l22Quiet -/
def quietB (U : Rr) : Bool := !U.ld && (!U.ty && (U.ba == 0 && decide (U.ye.length + U.be.length + U.ac.length = 0)))
theorem rr_at {lo : Nat} {w : World} {cs : List Value} {U : Rr} (h : RrC lo w cs U) :
    cs[0]? = some (.int .i64 U.nu) ∧ cs[1]? = some (.int .i64 U.of) ∧ cs[2]? = some (.bool U.up) ∧ cs[11]? = some (.bool U.ld) ∧ cs[12]? = some (.bool U.ty) ∧ cs[13]? = some (.int .i64 U.ba) ∧ cs[17]? = some (.int .i64 U.hd) ∧ cs[6]? = some (.int .i64 U.dk.pr) ∧
    (∃ a k, cs[9]? = some (.slice a U.he.length k)) ∧ (∃ a k, cs[10]? = some (.slice a U.wi.length k)) ∧ (∃ a k, cs[14]? = some (.slice a U.ye.length k)) ∧ (∃ a k, cs[15]? = some (.slice a U.be.length k)) ∧ ∃ a k, cs[16]? = some (.slice a U.ac.length k) := by
  obtain ⟨a0, k0, a1, k1, a2, k2, a3, k3, a4, k4, a5, k5, a6, k6, rfl, h⟩ := h
  exact ⟨rfl, rfl, rfl, rfl, rfl, rfl, rfl, rfl, ⟨_, _, rfl⟩, ⟨_, _, rfl⟩, ⟨_, _, rfl⟩, ⟨_, _, rfl⟩, ⟨_, _, rfl⟩⟩

set_option maxRecDepth 20000 in
set_option maxHeartbeats 8000000 in
theorem l22Quiet_any (lo : Nat) (cs : List Value) (U : Rr) (w : World) (h : RrC lo w cs U) (hn : RrSmall U) :
    Calls Try.prog 72 #[.agg cs.toArray] w fun e w' => e = .returned (.bool (quietB U)) ∧ Below w.heap.size w w' := by
  obtain ⟨-, -, -, c11, c12, c13, -, -, -, -, ⟨a4, k4, c14⟩, ⟨a5, k5, c15⟩, ⟨a6, k6, c16⟩⟩ := rr_at h
  obtain ⟨-, -, -, -, n4, ⟨n5, -⟩, ⟨n6, -⟩⟩ := hn
  unfold RisSmall at n4
  clear h
  have HQ : Hid (quietB U = (!U.ld && (!U.ty && (U.ba == 0 && decide (U.ye.length + U.be.length + U.ac.length = 0))))) := rfl
  have HO : ∀ o, Hid (Below w.heap.size w (w.alloc o)) := fun o => one_al w o
  cases q1 : U.ld with
  | true =>
    rw [q1] at c11
    go_enter Try.func72, Try.ntmps72
    go_wp2
    go_ret
    exact ⟨ret_bool (by rw [HQ.out, q1]; rfl), (HO _).out⟩
  | false =>
  cases q2 : U.ty with
  | true =>
    rw [q1] at c11
    rw [q2] at c12
    go_enter Try.func72, Try.ntmps72
    go_wp2
    go_ret
    exact ⟨ret_bool (by rw [HQ.out, q1, q2]; rfl), (HO _).out⟩
  | false =>
  cases q3 : (U.ba == 0) with
  | false =>
    rw [q1] at c11
    rw [q2] at c12
    go_enter Try.func72, Try.ntmps72
    go_wp2
    go_ret
    exact ⟨ret_bool (by rw [HQ.out, q1, q2, q3]; rfl), (HO _).out⟩
  | true =>
    rw [q1] at c11
    rw [q2] at c12
    go_enter Try.func72, Try.ntmps72
    go_wp2
    go_ret
    refine ⟨ret_bool ?_, (HO _).out⟩
    rw [HQ.out, q1, q2, q3, Bool.eq_iff_iff]
    simp only [Bool.not_false, Bool.true_and, beq_iff_eq, decide_eq_true_eq]
    omega
end Go.Proofs.Ytoklnkojacdciaa
