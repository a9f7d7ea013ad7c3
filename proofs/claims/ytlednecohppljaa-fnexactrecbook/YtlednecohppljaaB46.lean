import Derived.Test.YtlednecohppljaaB31
import Derived.Test.YtlednecohppljaaB43
import Derived.Test.YtlednecohppljaaB45
namespace Go.Proofs.Ytlednecohppljaa
open Go.RowKit Go.Deep

set_option maxHeartbeats 2000000 in
theorem ballotI_any (lo : Nat) (cs : List Value) (U : Rr) (w : World) (h : RrC lo w cs U) :
    Calls Try.prog 99 #[.agg cs.toArray] w fun e w' => e = .returned (.bool (inB 1 U.dk.pr U.ba)) ∧ Below w.heap.size w w' := by
  obtain ⟨-, -, -, -, -, c13, -, c6, -, -, -, -, -⟩ := rr_at h
  clear h
  have HO : ∀ o, Hid (Below w.heap.size w (w.alloc o)) := fun o => one_al w o
  go_enter Try.func99, Try.ntmps99
  go_wp2_with (go_at_call 67; refine (within_any _ _ _ _).mono ?_; rintro e w' ⟨rfl, rfl⟩)
  go_ret
  exact ⟨rfl, (HO _).out⟩

/-- the role, as an interface's value -/
def roleV (U : Rr) : Value := if U.ld = true then .iface 114 (.agg #[]) else if U.ty = true then .iface 115 (.agg #[]) else .iface 116 (.agg #[])
set_option maxHeartbeats 2000000 in
theorem roleI_any (lo : Nat) (cs : List Value) (U : Rr) (w : World) (h : RrC lo w cs U) :
    Calls Try.prog 71 #[.agg cs.toArray] w fun e w' => e = .returned (roleV U) ∧ Below w.heap.size w w' := by
  obtain ⟨-, -, -, c11, c12, -, -, -, -, -, -, -, -⟩ := rr_at h
  clear h
  have HO : ∀ o, Hid (Below w.heap.size w (w.alloc o)) := fun o => one_al w o
  cases q1 : U.ld with
  | true =>
    have HE : Hid (roleV U = .iface 114 (.agg #[])) := by unfold Hid roleV; rw [q1]; rfl
    rw [q1] at c11
    go_enter Try.func71, Try.ntmps71
    go_wp2
    go_ret
    exact ⟨by rw [HE.out]; rfl, (HO _).out⟩
  | false =>
    rw [q1] at c11
    cases q2 : U.ty with
    | true =>
      have HE : Hid (roleV U = .iface 115 (.agg #[])) := by unfold Hid roleV; rw [q1, q2]; rfl
      rw [q2] at c12
      go_enter Try.func71, Try.ntmps71
      go_wp2
      go_ret
      exact ⟨by rw [HE.out]; rfl, (HO _).out⟩
    | false =>
      have HE : Hid (roleV U = .iface 116 (.agg #[])) := by unfold Hid roleV; rw [q1, q2]; rfl
      rw [q2] at c12
      go_enter Try.func71, Try.ntmps71
      go_wp2
      go_ret
      exact ⟨by rw [HE.out]; rfl, (HO _).out⟩

def zB (n : Nat) : Bool := ((n : Int) == 0)
def leadS (U : Rr) : Bool := !U.ty && (inB 1 U.dk.pr U.ba && (zB U.ye.length && zB U.be.length))
def tryS (U : Rr) : Bool := inB 1 U.dk.pr U.ba && zB U.ac.length
def quietS (U : Rr) : Bool := U.ba == 0 && (zB U.ye.length && (zB U.be.length && zB U.ac.length))
def stillB (U : Rr) : Bool := !U.ld && (!U.ty && (zB U.he.length && (zB U.wi.length && U.hd == 0)))
def soundB (U : Rr) : Bool := if U.ld then leadS U else if U.ty then tryS U else quietS U

set_option maxRecDepth 20000 in
set_option maxHeartbeats 4000000 in
theorem quietI_any (lo : Nat) (cs : List Value) (U : Rr) (w : World) (h : RrC lo w cs U) :
    Calls Try.prog 101 #[.agg #[], .agg cs.toArray] w fun e w' => e = .returned (.bool (quietS U)) ∧ Below w.heap.size w w' := by
  obtain ⟨-, -, -, -, -, c13, -, -, -, -, ⟨a4, k4, c14⟩, ⟨a5, k5, c15⟩, ⟨a6, k6, c16⟩⟩ := rr_at h
  clear h
  have HE : Hid (quietS U = (U.ba == 0 && (zB U.ye.length && (zB U.be.length && zB U.ac.length)))) := rfl
  have HO : ∀ o o', Hid (Below w.heap.size w ((w.alloc o).alloc o')) := fun o o' => (one_al w o).alloc (by simp) o'
  obtain ⟨nye, hnye⟩ : ∃ n : Nat, n = U.ye.length := ⟨_, rfl⟩
  rw [← hnye] at c14
  have HNye := hide hnye
  clear hnye
  obtain ⟨nbe, hnbe⟩ : ∃ n : Nat, n = U.be.length := ⟨_, rfl⟩
  rw [← hnbe] at c15
  have HNbe := hide hnbe
  clear hnbe
  obtain ⟨nac, hnac⟩ : ∃ n : Nat, n = U.ac.length := ⟨_, rfl⟩
  rw [← hnac] at c16
  have HNac := hide hnac
  clear hnac
  cases q1 : (U.ba == 0) with
  | false =>
    go_enter Try.func101, Try.ntmps101
    go_wp2
    go_ret
    exact ⟨ret_bool (by rw [HE.out, q1]; rfl), (HO _ _).out⟩
  | true =>
  cases q2 : ((nye : Int) == 0) with
  | false =>
    go_enter Try.func101, Try.ntmps101
    go_wp2
    go_ret
    exact ⟨ret_bool (by rw [HE.out, q1, ← HNye.out, zB, q2]; rfl), (HO _ _).out⟩
  | true =>
  cases q3 : ((nbe : Int) == 0) with
  | false =>
    go_enter Try.func101, Try.ntmps101
    go_wp2
    go_ret
    exact ⟨ret_bool (by rw [HE.out, q1, ← HNye.out, zB, q2, ← HNbe.out, zB, q3]; rfl), (HO _ _).out⟩
  | true =>
    go_enter Try.func101, Try.ntmps101
    go_wp2
    go_ret
    exact ⟨ret_bool (by rw [HE.out, q1, ← HNye.out, zB, q2, ← HNbe.out, zB, q3, ← HNac.out]; rfl), (HO _ _).out⟩

set_option maxRecDepth 20000 in
set_option maxHeartbeats 4000000 in
theorem stillI_any (lo : Nat) (cs : List Value) (U : Rr) (w : World) (h : RrC lo w cs U) :
    Calls Try.prog 72 #[.agg cs.toArray] w fun e w' => e = .returned (.bool (stillB U)) ∧ Below w.heap.size w w' := by
  obtain ⟨-, -, -, c11, c12, -, c17, -, ⟨a2, k2, c9⟩, ⟨a3, k3, c10⟩, -, -, -⟩ := rr_at h
  clear h
  have HE : Hid (stillB U = (!U.ld && (!U.ty && (zB U.he.length && (zB U.wi.length && U.hd == 0))))) := rfl
  have HO : ∀ o, Hid (Below w.heap.size w (w.alloc o)) := fun o => one_al w o
  obtain ⟨nhe, hnhe⟩ : ∃ n : Nat, n = U.he.length := ⟨_, rfl⟩
  rw [← hnhe] at c9
  have HNhe := hide hnhe
  clear hnhe
  obtain ⟨nwi, hnwi⟩ : ∃ n : Nat, n = U.wi.length := ⟨_, rfl⟩
  rw [← hnwi] at c10
  have HNwi := hide hnwi
  clear hnwi
  cases q1 : U.ld with
  | true =>
    rw [q1] at c11
    go_enter Try.func72, Try.ntmps72
    go_wp2
    go_ret
    exact ⟨ret_bool (by rw [HE.out, q1]; rfl), (HO _).out⟩
  | false =>
  rw [q1] at c11
  cases q2 : U.ty with
  | true =>
    rw [q2] at c12
    go_enter Try.func72, Try.ntmps72
    go_wp2
    go_ret
    exact ⟨ret_bool (by rw [HE.out, q1, q2]; rfl), (HO _).out⟩
  | false =>
  rw [q2] at c12
  cases q3 : ((nhe : Int) == 0) with
  | false =>
    go_enter Try.func72, Try.ntmps72
    go_wp2
    go_ret
    exact ⟨ret_bool (by rw [HE.out, q1, q2, ← HNhe.out, zB, q3]; rfl), (HO _).out⟩
  | true =>
  cases q4 : ((nwi : Int) == 0) with
  | false =>
    go_enter Try.func72, Try.ntmps72
    go_wp2
    go_ret
    exact ⟨ret_bool (by rw [HE.out, q1, q2, ← HNhe.out, zB, q3, ← HNwi.out, zB, q4]; rfl), (HO _).out⟩
  | true =>
    go_enter Try.func72, Try.ntmps72
    go_wp2
    go_ret
    exact ⟨ret_bool (by rw [HE.out, q1, q2, ← HNhe.out, zB, q3, ← HNwi.out, zB, q4]; rfl), (HO _).out⟩

set_option maxRecDepth 20000 in
set_option maxHeartbeats 4000000 in
theorem tryI_any (lo : Nat) (cs : List Value) (U : Rr) (w : World) (h : RrC lo w cs U) :
    Calls Try.prog 100 #[.agg #[], .agg cs.toArray] w fun e w' => e = .returned (.bool (tryS U)) ∧ Below w.heap.size w w' := by
  have HC := hide h
  obtain ⟨-, -, -, -, -, -, -, -, -, -, -, -, ⟨a6, k6, c16⟩⟩ := rr_at h
  clear h
  have HE : Hid (tryS U = (inB 1 U.dk.pr U.ba && zB U.ac.length)) := rfl
  have HO : ∀ o o', Hid (Below w.heap.size w ((w.alloc o).alloc o')) := fun o o' => (one_al w o).alloc (by simp) o'
  have HZ : Hid ((Try.prog.info? 45).map (·.size) = some cs.length) := by unfold Hid; rw [HC.out.len]; exact sizeRr
  obtain ⟨nac, hnac⟩ : ∃ n : Nat, n = U.ac.length := ⟨_, rfl⟩
  rw [← hnac] at c16
  have HNac := hide hnac
  clear hnac
  have HC16 := hide c16
  clear c16
  go_enter Try.func100, Try.ntmps100
  go_wp2_with (first | (with_reducible refine wpList_load_mid (by with_reducible rfl) 45 (.tmp 3) (by with_reducible rfl) (w.heap.size + 1) 0 (by with_unfolding_all rfl) cs _ ((Box.new _ _ _ _ (by simp)).range rfl) Try.underlying45 (by with_unfolding_all rfl) HZ.out ?_) | (with_reducible refine wpList_load_gd (by with_unfolding_all rfl) 45 (.tmp 3) (by with_reducible rfl) (w.heap.size + 1) 0 (by with_unfolding_all rfl) cs _ ((Box.new _ _ _ _ (by simp)).range rfl) Try.underlying45 (by with_unfolding_all rfl) HZ.out ?_))
  refine (ballotI_any lo cs U _ (HC.out.below (HO _ _).out)).mono ?_
  rintro e w1 ⟨rfl, hb1⟩
  have F1 : Hid (Box w1 (w.heap.size + 1) cs.toArray) := (Box.new _ _ _ _ (by simp)).on hb1
  have HB1 : Hid (Below w.heap.size w w1) := bt (HO _ _).out hb1
  clear hb1
  cases q1 : inB 1 U.dk.pr U.ba with
  | false =>
    go_wp2
    go_ret
    exact ⟨ret_bool (by rw [HE.out, q1]; rfl), HB1.out⟩
  | true =>
    have g16 : w1.cell? ⟨w.heap.size + 1, 16, none⟩ = some (.slice a6 nac k6) := by rw [F1.out.cell _, List.getElem?_toArray]; exact HC16.out
    go_wp2
    go_ret
    exact ⟨ret_bool (by rw [HE.out, q1, ← HNac.out]; rfl), HB1.out⟩

set_option maxRecDepth 20000 in
set_option maxHeartbeats 4000000 in
theorem leadI_any (lo : Nat) (cs : List Value) (U : Rr) (w : World) (h : RrC lo w cs U) :
    Calls Try.prog 98 #[.agg #[], .agg cs.toArray] w fun e w' => e = .returned (.bool (leadS U)) ∧ Below w.heap.size w w' := by
  have HC := hide h
  obtain ⟨-, -, -, -, c12, -, -, -, -, -, ⟨a4, k4, c14⟩, ⟨a5, k5, c15⟩, -⟩ := rr_at h
  clear h
  have HE : Hid (leadS U = (!U.ty && (inB 1 U.dk.pr U.ba && (zB U.ye.length && zB U.be.length)))) := rfl
  have HO : ∀ o o', Hid (Below w.heap.size w ((w.alloc o).alloc o')) := fun o o' => (one_al w o).alloc (by simp) o'
  have HZ : Hid ((Try.prog.info? 45).map (·.size) = some cs.length) := by unfold Hid; rw [HC.out.len]; exact sizeRr
  obtain ⟨nye, hnye⟩ : ∃ n : Nat, n = U.ye.length := ⟨_, rfl⟩
  rw [← hnye] at c14
  have HNye := hide hnye
  clear hnye
  obtain ⟨nbe, hnbe⟩ : ∃ n : Nat, n = U.be.length := ⟨_, rfl⟩
  rw [← hnbe] at c15
  have HNbe := hide hnbe
  clear hnbe
  have HC14 := hide c14
  have HC15 := hide c15
  clear c14 c15
  cases q0 : U.ty with
  | true =>
    rw [q0] at c12
    go_enter Try.func98, Try.ntmps98
    go_wp2
    go_ret
    exact ⟨ret_bool (by rw [HE.out, q0]; rfl), (HO _ _).out⟩
  | false =>
  rw [q0] at c12
  go_enter Try.func98, Try.ntmps98
  go_wp2_with (first | (with_reducible refine wpList_load_mid (by with_reducible rfl) 45 (.tmp 3) (by with_reducible rfl) (w.heap.size + 1) 0 (by with_unfolding_all rfl) cs _ ((Box.new _ _ _ _ (by simp)).range rfl) Try.underlying45 (by with_unfolding_all rfl) HZ.out ?_) | (with_reducible refine wpList_load_gd (by with_unfolding_all rfl) 45 (.tmp 3) (by with_reducible rfl) (w.heap.size + 1) 0 (by with_unfolding_all rfl) cs _ ((Box.new _ _ _ _ (by simp)).range rfl) Try.underlying45 (by with_unfolding_all rfl) HZ.out ?_))
  refine (ballotI_any lo cs U _ (HC.out.below (HO _ _).out)).mono ?_
  rintro e w1 ⟨rfl, hb1⟩
  have F1 : Hid (Box w1 (w.heap.size + 1) cs.toArray) := (Box.new _ _ _ _ (by simp)).on hb1
  have HB1 : Hid (Below w.heap.size w w1) := bt (HO _ _).out hb1
  clear hb1
  cases q1 : inB 1 U.dk.pr U.ba with
  | false =>
    go_wp2
    go_ret
    exact ⟨ret_bool (by rw [HE.out, q0, q1]; rfl), HB1.out⟩
  | true =>
    have g14 : w1.cell? ⟨w.heap.size + 1, 14, none⟩ = some (.slice a4 nye k4) := by rw [F1.out.cell _, List.getElem?_toArray]; exact HC14.out
    have g15 : w1.cell? ⟨w.heap.size + 1, 15, none⟩ = some (.slice a5 nbe k5) := by rw [F1.out.cell _, List.getElem?_toArray]; exact HC15.out
    cases q2 : ((nye : Int) == 0) with
    | false =>
      go_wp2
      go_ret
      exact ⟨ret_bool (by rw [HE.out, q0, q1, ← HNye.out, zB, q2]; rfl), HB1.out⟩
    | true =>
      go_wp2
      go_ret
      exact ⟨ret_bool (by rw [HE.out, q0, q1, ← HNye.out, zB, q2, ← HNbe.out]; rfl), HB1.out⟩
end Go.Proofs.Ytlednecohppljaa
namespace Go.Proofs.Ytlednecohppljaa
open Go.RowKit Go.Deep

set_option maxRecDepth 20000 in
set_option maxHeartbeats 8000000 in
theorem heldI_any (lo : Nat) (cs : List Value) (U : Rr) (w : World) (h : RrC lo w cs U) :
    Calls Try.prog 65 #[.agg cs.toArray] w fun e w' => e = .returned (.bool (decide (U.he.length ≤ 400) && (List.range U.he.length).all (heldB U))) ∧ Below w.heap.size w w' := by
  obtain ⟨a0, k0, a1, k1, a2, k2, a3, k3, a4, k4, a5, k5, a6, k6, hcs, h⟩ := h
  have HL := hide h
  have c0 : cs[0]? = some (.int .i64 U.nu) := by rw [hcs]; rfl
  have c1 : cs[1]? = some (.int .i64 U.of) := by rw [hcs]; rfl
  have c9 : cs[9]? = some (.slice a2 U.he.length k2) := by rw [hcs]; rfl
  have hm := h.l2.max
  unfold maxLen at hm
  clear h hcs
  obtain ⟨R, hR⟩ : ∃ R, R = (decide (U.he.length ≤ 400) && (List.range U.he.length).all (heldB U)) := ⟨_, rfl⟩
  rw [← hR]
  have HR' := hide hR
  clear hR
  by_cases q5 : U.he.length ≤ 400
  case neg =>
    have d5 : decide ((400 : Int) < (U.he.length : Int)) = true := by simp; omega
    go_enter Try.func65, Try.ntmps65
    go_wp2
    go_ret
    exact ⟨ret_bool (by rw [HR'.out, decide_eq_false q5]; rfl), one_al _ _⟩
  have d5 : decide ((400 : Int) < (U.he.length : Int)) = false := by simp; omega
  have HE1 : Hid (R = (List.range U.he.length).all (heldB U)) := by unfold Hid; rw [HR'.out, decide_eq_true q5]; rfl
  clear HR'
  go_enter Try.func65, Try.ntmps65
  go_wp2
  clear d5
  generalize hWa : w.alloc _ = Wa
  have HB : Hid (Below w.heap.size w Wa) := by unfold Hid; rw [← hWa]; exact (one_al w _)
  have F : Hid (Box Wa w.heap.size cs.toArray) := by unfold Hid; rw [← hWa]; exact (Box.new _ _ _ _ rfl)
  clear hWa
  go_loopw [12] (fun i wr => ∃ k : Nat, i = .int .i64 k ∧ k ≤ U.he.length ∧ Below Wa.heap.size Wa wr ∧ ∀ j, j < k → heldB U j = true) (fun i _ => U.he.length - (intOf i).toNat)
  case atStart => exact ⟨0, rfl, by omega, Below.refl _ _, fun j h => by omega⟩
  case round =>
    obtain ⟨k, rfl, hk, hb, hall⟩ := hrel
    have HAL := hide hall
    have HBr := hide hb
    have FR := hide (F.out.on hb)
    clear hall hb
    by_cases hlt : k < U.he.length
    · obtain ⟨b, off, hab, hbw, -, hc⟩ := (HL.out.below HB.out).l2.full' (by omega)
      subst hab
      obtain ⟨m, hm'⟩ : ∃ m, m = U.he[k] := ⟨_, rfl⟩
      have HDK : Hid (heldB U k = (msgB m U.of && m.fr == U.nu)) := by unfold Hid heldB; rw [List.getElem?_eq_getElem hlt, hm']
      obtain ⟨ms, hr, b0, m0, rfl, hf⟩ := hc k hlt
      rw [← hm'] at hf hr
      have HM : Hid (RmC lo wr (rmL m b0 m0) m) := ⟨_, _, rfl, hf.below HBr.out⟩
      have HR := rng_below hr HBr.out hbw
      have s0 : wr.cell? ⟨b, off + k * 8, none⟩ = some (.int .i64 m.kd) := HR 0 _ rfl
      have s1 : wr.cell? ⟨b, off + k * 8 + 1, none⟩ = some (.int .i64 m.fr) := HR 1 _ rfl
      have s2 : wr.cell? ⟨b, off + k * 8 + 2, none⟩ = some (.int .i64 m.tt) := HR 2 _ rfl
      have s3 : wr.cell? ⟨b, off + k * 8 + 3, none⟩ = some (.int .i64 m.ba) := HR 3 _ rfl
      have s4 : wr.cell? ⟨b, off + k * 8 + 4, none⟩ = some (.int .i64 m.ix) := HR 4 _ rfl
      have s5 : wr.cell? ⟨b, off + k * 8 + 5, none⟩ = some (.int .i64 m.kn) := HR 5 _ rfl
      have s6 : wr.cell? ⟨b, off + k * 8 + 6, none⟩ = some (.string m.tx) := HR 6 _ rfl
      have s7 : wr.cell? ⟨b, off + k * 8 + 7, none⟩ = some (.slice b0 m.sl.length m0) := HR 7 _ rfl
      have x0 : ∀ o, (wr.alloc o).cell? ⟨w.heap.size, 0, none⟩ = some (.int .i64 U.nu) := fun o => by rw [(FR.out.on (one_al _ _)).cell 0, List.getElem?_toArray]; exact c0
      have x1 : ∀ o, (wr.alloc o).cell? ⟨w.heap.size, 1, none⟩ = some (.int .i64 U.of) := fun o => by rw [(FR.out.on (one_al _ _)).cell 1, List.getElem?_toArray]; exact c1
      have i0 : (0 : Int) ≤ (k : Int) := by omega
      have i1 : (k : Int) < (U.he.length : Int) := by omega
      clear hc hr hf hm' HR
      cases r2 : (m.fr == U.nu) with
      | false =>
        have hne : (m.fr != U.nu) = true := by rw [bne, r2]; rfl
        have HNo : Hid (R = false) := by unfold Hid; rw [HE1.out]; exact range_not hlt (by rw [HDK.out, r2]; simp)
        go_wp2
        go_ret
        exact ⟨ret_bool HNo.out.symm, bt (bt HB.out HBr.out) (one_al _ _)⟩
      | true =>
        have hne : (m.fr != U.nu) = false := by rw [bne, r2]; rfl
        cases r1 : msgB m U.of with
        | false =>
          have HNo : Hid (R = false) := by unfold Hid; rw [HE1.out]; exact range_not hlt (by rw [HDK.out, r1]; rfl)
          go_wp2_with (go_at_call 77; refine (implMsg_any lo _ m U.of _ (HM.out.below (one_al _ _))).mono ?_; rw [r1]; rintro e w1 ⟨rfl, hb1⟩; have HB1 := hide hb1; clear hb1)
          go_ret
          exact ⟨ret_bool HNo.out.symm, bt (bt HB.out HBr.out) (bt (one_al _ _) HB1.out)⟩
        | true =>
          have HT : Hid (heldB U k = true) := by unfold Hid; rw [HDK.out, r1, r2]; rfl
          go_wp2_with (go_at_call 77; refine (implMsg_any lo _ m U.of _ (HM.out.below (one_al _ _))).mono ?_; rw [r1]; rintro e w1 ⟨rfl, hb1⟩; have HB1 := hide hb1; clear hb1)
          go_roundw
          case rel => exact ⟨k + 1, by go_num, by omega, bt HBr.out (bt (one_al _ _) HB1.out), fun j hj => by
                        by_cases e : j = k
                        · rw [e]; exact HT.out
                        · exact HAL.out j (by omega)⟩
          case measure => simp [intOf]; omega
    · have HE2 : Hid (R = true) := by unfold Hid; rw [HE1.out]; exact range_all (fun i hi => HAL.out i (by omega))
      go_wp2
      go_ret
      exact ⟨ret_bool HE2.out.symm, bt HB.out HBr.out⟩
end Go.Proofs.Ytlednecohppljaa
