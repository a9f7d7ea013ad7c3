import Derived.Test.YtoklnkojacdciaaG23
import Derived.Test.YtoklnkojacdciaaG26
import Derived.Test.YtoklnkojacdciaaG29
namespace Go.Proofs.Ytoklnkojacdciaa
open Go.RowKit Go.Deep

set_option maxHeartbeats 2000000 in
theorem ballotI_any (lo : Nat) (cs : List Value) (U : Rr) (w : World) (h : RrC lo w cs U) :
    Calls Try.prog 136 #[.agg cs.toArray] w fun e w' => e = .returned (.bool (inB 1 U.dk.pr U.ba)) ∧ Below w.heap.size w w' := by
  obtain ⟨-, -, -, -, -, c13, -, c6, -, -, -, -, -⟩ := rr_at h
  clear h
  have HO : ∀ o, Hid (Below w.heap.size w (w.alloc o)) := fun o => one_al w o
  go_enter Try.func136, Try.ntmps136
  go_wp2_with (go_at_call 22; refine (within_any _ _ _ _).mono ?_; rintro e w' ⟨rfl, rfl⟩)
  go_ret
  exact ⟨rfl, (HO _).out⟩

/-- the role, as an interface's value -/
def roleV (U : Rr) : Value := if U.ld = true then .iface 156 (.agg #[]) else if U.ty = true then .iface 157 (.agg #[]) else .iface 158 (.agg #[])
set_option maxHeartbeats 2000000 in
theorem roleI_any (lo : Nat) (cs : List Value) (U : Rr) (w : World) (h : RrC lo w cs U) :
    Calls Try.prog 104 #[.agg cs.toArray] w fun e w' => e = .returned (roleV U) ∧ Below w.heap.size w w' := by
  obtain ⟨-, -, -, c11, c12, -, -, -, -, -, -, -, -⟩ := rr_at h
  clear h
  have HO : ∀ o, Hid (Below w.heap.size w (w.alloc o)) := fun o => one_al w o
  cases q1 : U.ld with
  | true =>
    have HE : Hid (roleV U = .iface 156 (.agg #[])) := by unfold Hid roleV; rw [q1]; rfl
    rw [q1] at c11
    go_enter Try.func104, Try.ntmps104
    go_wp2
    go_ret
    exact ⟨by rw [HE.out]; rfl, (HO _).out⟩
  | false =>
    rw [q1] at c11
    cases q2 : U.ty with
    | true =>
      have HE : Hid (roleV U = .iface 157 (.agg #[])) := by unfold Hid roleV; rw [q1, q2]; rfl
      rw [q2] at c12
      go_enter Try.func104, Try.ntmps104
      go_wp2
      go_ret
      exact ⟨by rw [HE.out]; rfl, (HO _).out⟩
    | false =>
      have HE : Hid (roleV U = .iface 158 (.agg #[])) := by unfold Hid roleV; rw [q1, q2]; rfl
      rw [q2] at c12
      go_enter Try.func104, Try.ntmps104
      go_wp2
      go_ret
      exact ⟨by rw [HE.out]; rfl, (HO _).out⟩

def zB (n : Nat) : Bool := ((n : Int) == 0)
def leadS (U : Rr) : Bool := !U.ty && (inB 1 U.dk.pr U.ba && (zB U.ye.length && zB U.be.length))
def tryS (U : Rr) : Bool := inB 1 U.dk.pr U.ba && zB U.ac.length
def quietS (U : Rr) : Bool := U.ba == 0 && (zB U.ye.length && (zB U.be.length && zB U.ac.length))
def stillB (U : Rr) : Bool := !U.ld && (!U.ty && (zB U.he.length && (zB U.wi.length && U.hd == 0)))
def soundB (U : Rr) : Bool := if U.ld then leadS U else if U.ty then tryS U else quietS U

set_option maxRecDepth 20000 in
set_option maxHeartbeats 4000000 in
theorem quietI_any (lo : Nat) (cs : List Value) (U : Rr) (w : World) (h : RrC lo w cs U) :
    Calls Try.prog 138 #[.agg #[], .agg cs.toArray] w fun e w' => e = .returned (.bool (quietS U)) ∧ Below w.heap.size w w' := by
  obtain ⟨-, -, -, -, -, c13, -, -, -, -, ⟨a4, k4, c14⟩, ⟨a5, k5, c15⟩, ⟨a6, k6, c16⟩⟩ := rr_at h
  clear h
  have HE : Hid (quietS U = (U.ba == 0 && (zB U.ye.length && (zB U.be.length && zB U.ac.length)))) := rfl
  have HO : ∀ o o', Hid (Below w.heap.size w ((w.alloc o).alloc o')) := fun o o' => (one_al w o).alloc (by simp) o'
  obtain ⟨nye, hnye⟩ : ∃ n : Nat, n = U.ye.length := ⟨_, rfl⟩
  rw [← hnye] at c14
  have HNye := hide hnye
  clear hnye
  obtain ⟨nbe, hnbe⟩ : ∃ n : Nat, n = U.be.length := ⟨_, rfl⟩
  rw [← hnbe] at c15
  have HNbe := hide hnbe
  clear hnbe
  obtain ⟨nac, hnac⟩ : ∃ n : Nat, n = U.ac.length := ⟨_, rfl⟩
  rw [← hnac] at c16
  have HNac := hide hnac
  clear hnac
  cases q1 : (U.ba == 0) with
  | false =>
    go_enter Try.func138, Try.ntmps138
    go_wp2
    go_ret
    exact ⟨ret_bool (by rw [HE.out, q1]; rfl), (HO _ _).out⟩
  | true =>
  cases q2 : ((nye : Int) == 0) with
  | false =>
    go_enter Try.func138, Try.ntmps138
    go_wp2
    go_ret
    exact ⟨ret_bool (by rw [HE.out, q1, ← HNye.out, zB, q2]; rfl), (HO _ _).out⟩
  | true =>
  cases q3 : ((nbe : Int) == 0) with
  | false =>
    go_enter Try.func138, Try.ntmps138
    go_wp2
    go_ret
    exact ⟨ret_bool (by rw [HE.out, q1, ← HNye.out, zB, q2, ← HNbe.out, zB, q3]; rfl), (HO _ _).out⟩
  | true =>
    go_enter Try.func138, Try.ntmps138
    go_wp2
    go_ret
    exact ⟨ret_bool (by rw [HE.out, q1, ← HNye.out, zB, q2, ← HNbe.out, zB, q3, ← HNac.out]; rfl), (HO _ _).out⟩

set_option maxRecDepth 20000 in
set_option maxHeartbeats 4000000 in
theorem stillI_any (lo : Nat) (cs : List Value) (U : Rr) (w : World) (h : RrC lo w cs U) :
    Calls Try.prog 105 #[.agg cs.toArray] w fun e w' => e = .returned (.bool (stillB U)) ∧ Below w.heap.size w w' := by
  obtain ⟨-, -, -, c11, c12, -, c17, -, ⟨a2, k2, c9⟩, ⟨a3, k3, c10⟩, -, -, -⟩ := rr_at h
  clear h
  have HE : Hid (stillB U = (!U.ld && (!U.ty && (zB U.he.length && (zB U.wi.length && U.hd == 0))))) := rfl
  have HO : ∀ o, Hid (Below w.heap.size w (w.alloc o)) := fun o => one_al w o
  obtain ⟨nhe, hnhe⟩ : ∃ n : Nat, n = U.he.length := ⟨_, rfl⟩
  rw [← hnhe] at c9
  have HNhe := hide hnhe
  clear hnhe
  obtain ⟨nwi, hnwi⟩ : ∃ n : Nat, n = U.wi.length := ⟨_, rfl⟩
  rw [← hnwi] at c10
  have HNwi := hide hnwi
  clear hnwi
  cases q1 : U.ld with
  | true =>
    rw [q1] at c11
    go_enter Try.func105, Try.ntmps105
    go_wp2
    go_ret
    exact ⟨ret_bool (by rw [HE.out, q1]; rfl), (HO _).out⟩
  | false =>
  rw [q1] at c11
  cases q2 : U.ty with
  | true =>
    rw [q2] at c12
    go_enter Try.func105, Try.ntmps105
    go_wp2
    go_ret
    exact ⟨ret_bool (by rw [HE.out, q1, q2]; rfl), (HO _).out⟩
  | false =>
  rw [q2] at c12
  cases q3 : ((nhe : Int) == 0) with
  | false =>
    go_enter Try.func105, Try.ntmps105
    go_wp2
    go_ret
    exact ⟨ret_bool (by rw [HE.out, q1, q2, ← HNhe.out, zB, q3]; rfl), (HO _).out⟩
  | true =>
  cases q4 : ((nwi : Int) == 0) with
  | false =>
    go_enter Try.func105, Try.ntmps105
    go_wp2
    go_ret
    exact ⟨ret_bool (by rw [HE.out, q1, q2, ← HNhe.out, zB, q3, ← HNwi.out, zB, q4]; rfl), (HO _).out⟩
  | true =>
    go_enter Try.func105, Try.ntmps105
    go_wp2
    go_ret
    exact ⟨ret_bool (by rw [HE.out, q1, q2, ← HNhe.out, zB, q3, ← HNwi.out, zB, q4]; rfl), (HO _).out⟩

set_option maxRecDepth 20000 in
set_option maxHeartbeats 4000000 in
theorem tryI_any (lo : Nat) (cs : List Value) (U : Rr) (w : World) (h : RrC lo w cs U) :
    Calls Try.prog 137 #[.agg #[], .agg cs.toArray] w fun e w' => e = .returned (.bool (tryS U)) ∧ Below w.heap.size w w' := by
  have HC := hide h
  obtain ⟨-, -, -, -, -, -, -, -, -, -, -, -, ⟨a6, k6, c16⟩⟩ := rr_at h
  clear h
  have HE : Hid (tryS U = (inB 1 U.dk.pr U.ba && zB U.ac.length)) := rfl
  have HO : ∀ o o', Hid (Below w.heap.size w ((w.alloc o).alloc o')) := fun o o' => (one_al w o).alloc (by simp) o'
  have HZ : Hid ((Try.prog.info? 51).map (·.size) = some cs.length) := by unfold Hid; rw [HC.out.len]; exact sizeRr
  obtain ⟨nac, hnac⟩ : ∃ n : Nat, n = U.ac.length := ⟨_, rfl⟩
  rw [← hnac] at c16
  have HNac := hide hnac
  clear hnac
  have HC16 := hide c16
  clear c16
  go_enter Try.func137, Try.ntmps137
  go_wp2_with (first | (with_reducible refine wpList_load_mid (by with_reducible rfl) 51 (.tmp 3) (by with_reducible rfl) (w.heap.size + 1) 0 (by with_unfolding_all rfl) cs _ ((Box.new _ _ _ _ (by simp)).range rfl) Try.underlying51 (by with_unfolding_all rfl) HZ.out ?_) | (with_reducible refine wpList_load_gd (by with_unfolding_all rfl) 51 (.tmp 3) (by with_reducible rfl) (w.heap.size + 1) 0 (by with_unfolding_all rfl) cs _ ((Box.new _ _ _ _ (by simp)).range rfl) Try.underlying51 (by with_unfolding_all rfl) HZ.out ?_))
  refine (ballotI_any lo cs U _ (HC.out.below (HO _ _).out)).mono ?_
  rintro e w1 ⟨rfl, hb1⟩
  have F1 : Hid (Box w1 (w.heap.size + 1) cs.toArray) := (Box.new _ _ _ _ (by simp)).on hb1
  have HB1 : Hid (Below w.heap.size w w1) := bt (HO _ _).out hb1
  clear hb1
  cases q1 : inB 1 U.dk.pr U.ba with
  | false =>
    go_wp2
    go_ret
    exact ⟨ret_bool (by rw [HE.out, q1]; rfl), HB1.out⟩
  | true =>
    have g16 : w1.cell? ⟨w.heap.size + 1, 16, none⟩ = some (.slice a6 nac k6) := by rw [F1.out.cell _, List.getElem?_toArray]; exact HC16.out
    go_wp2
    go_ret
    exact ⟨ret_bool (by rw [HE.out, q1, ← HNac.out]; rfl), HB1.out⟩

set_option maxRecDepth 20000 in
set_option maxHeartbeats 4000000 in
theorem leadI_any (lo : Nat) (cs : List Value) (U : Rr) (w : World) (h : RrC lo w cs U) :
    Calls Try.prog 135 #[.agg #[], .agg cs.toArray] w fun e w' => e = .returned (.bool (leadS U)) ∧ Below w.heap.size w w' := by
  have HC := hide h
  obtain ⟨-, -, -, -, c12, -, -, -, -, -, ⟨a4, k4, c14⟩, ⟨a5, k5, c15⟩, -⟩ := rr_at h
  clear h
  have HE : Hid (leadS U = (!U.ty && (inB 1 U.dk.pr U.ba && (zB U.ye.length && zB U.be.length)))) := rfl
  have HO : ∀ o o', Hid (Below w.heap.size w ((w.alloc o).alloc o')) := fun o o' => (one_al w o).alloc (by simp) o'
  have HZ : Hid ((Try.prog.info? 51).map (·.size) = some cs.length) := by unfold Hid; rw [HC.out.len]; exact sizeRr
  obtain ⟨nye, hnye⟩ : ∃ n : Nat, n = U.ye.length := ⟨_, rfl⟩
  rw [← hnye] at c14
  have HNye := hide hnye
  clear hnye
  obtain ⟨nbe, hnbe⟩ : ∃ n : Nat, n = U.be.length := ⟨_, rfl⟩
  rw [← hnbe] at c15
  have HNbe := hide hnbe
  clear hnbe
  have HC14 := hide c14
  have HC15 := hide c15
  clear c14 c15
  cases q0 : U.ty with
  | true =>
    rw [q0] at c12
    go_enter Try.func135, Try.ntmps135
    go_wp2
    go_ret
    exact ⟨ret_bool (by rw [HE.out, q0]; rfl), (HO _ _).out⟩
  | false =>
  rw [q0] at c12
  go_enter Try.func135, Try.ntmps135
  go_wp2_with (first | (with_reducible refine wpList_load_mid (by with_reducible rfl) 51 (.tmp 3) (by with_reducible rfl) (w.heap.size + 1) 0 (by with_unfolding_all rfl) cs _ ((Box.new _ _ _ _ (by simp)).range rfl) Try.underlying51 (by with_unfolding_all rfl) HZ.out ?_) | (with_reducible refine wpList_load_gd (by with_unfolding_all rfl) 51 (.tmp 3) (by with_reducible rfl) (w.heap.size + 1) 0 (by with_unfolding_all rfl) cs _ ((Box.new _ _ _ _ (by simp)).range rfl) Try.underlying51 (by with_unfolding_all rfl) HZ.out ?_))
  refine (ballotI_any lo cs U _ (HC.out.below (HO _ _).out)).mono ?_
  rintro e w1 ⟨rfl, hb1⟩
  have F1 : Hid (Box w1 (w.heap.size + 1) cs.toArray) := (Box.new _ _ _ _ (by simp)).on hb1
  have HB1 : Hid (Below w.heap.size w w1) := bt (HO _ _).out hb1
  clear hb1
  cases q1 : inB 1 U.dk.pr U.ba with
  | false =>
    go_wp2
    go_ret
    exact ⟨ret_bool (by rw [HE.out, q0, q1]; rfl), HB1.out⟩
  | true =>
    have g14 : w1.cell? ⟨w.heap.size + 1, 14, none⟩ = some (.slice a4 nye k4) := by rw [F1.out.cell _, List.getElem?_toArray]; exact HC14.out
    have g15 : w1.cell? ⟨w.heap.size + 1, 15, none⟩ = some (.slice a5 nbe k5) := by rw [F1.out.cell _, List.getElem?_toArray]; exact HC15.out
    cases q2 : ((nye : Int) == 0) with
    | false =>
      go_wp2
      go_ret
      exact ⟨ret_bool (by rw [HE.out, q0, q1, ← HNye.out, zB, q2]; rfl), HB1.out⟩
    | true =>
      go_wp2
      go_ret
      exact ⟨ret_bool (by rw [HE.out, q0, q1, ← HNye.out, zB, q2, ← HNbe.out]; rfl), HB1.out⟩
end Go.Proofs.Ytoklnkojacdciaa
