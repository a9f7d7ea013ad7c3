import Derived.Test.YtoklnkojacdciaaG21
import Derived.Test.YtoklnkojacdciaaG22
namespace Go.Proofs.Ytoklnkojacdciaa
open Go.RowKit Go.Deep

def heldB (U : Rr) (i : Nat) : Bool := match U.he[i]? with
  | some m => msgB m U.of && m.fr == U.nu
  | none => true
def leadB (U : Rr) : Bool := if U.ld || U.ty then inB 1 U.dk.pr U.ba && (!(U.ty && decide (0 < U.ac.length)) && !(U.ld && decide (0 < U.ye.length + U.be.length))) else quietB U
def restB (U : Rr) : Bool := (List.range U.he.length).all (heldB U) && (numsB U.of U.ye && (slotsB U.be && (acksB U.of U.ac && (!(U.ld && U.ty) && (leadB U && (U.up || (quietB U && ((U.he.length + U.wi.length : Nat) + U.hd == 0))))))))
def validR (U : Rr) : Bool := inB 1 5 U.of && (inB 1 U.of U.nu && (diskB U.sf && (diskB U.dk && (decide (U.he.length ≤ 400) && (wishB U.wi && (inB 0 1000000 U.hd && restB U))))))

set_option maxRecDepth 20000 in
set_option maxHeartbeats 8000000 in
theorem specValidR_any (lo : Nat) (cs : List Value) (U : Rr) (w : World) (h : RrC lo w cs U) (hn : RrSmall U) :
    Calls Try.prog 36 #[.agg cs.toArray] w fun e w' => e = .returned (.bool (validR U)) ∧ Below w.heap.size w w' := by
  have HN := hide hn
  have HC := hide h
  obtain ⟨a0, k0, a1, k1, a2, k2, a3, k3, a4, k4, a5, k5, a6, k6, hcs, h⟩ := h
  have HL := hide h
  have c0 : cs[0]? = some (.int .i64 U.nu) := by rw [hcs]; rfl
  have c1 : cs[1]? = some (.int .i64 U.of) := by rw [hcs]; rfl
  have c2 : cs[2]? = some (.bool U.up) := by rw [hcs]; rfl
  have c3 : cs[3]? = some (.int .i64 U.sf.pr) := by rw [hcs]; rfl
  have c4 : cs[4]? = some (.int .i64 U.sf.kn) := by rw [hcs]; rfl
  have c5 : cs[5]? = some (.slice a0 U.sf.sl.length k0) := by rw [hcs]; rfl
  have c6 : cs[6]? = some (.int .i64 U.dk.pr) := by rw [hcs]; rfl
  have c7 : cs[7]? = some (.int .i64 U.dk.kn) := by rw [hcs]; rfl
  have c8 : cs[8]? = some (.slice a1 U.dk.sl.length k1) := by rw [hcs]; rfl
  have c9 : cs[9]? = some (.slice a2 U.he.length k2) := by rw [hcs]; rfl
  have c10 : cs[10]? = some (.slice a3 U.wi.length k3) := by rw [hcs]; rfl
  have c11 : cs[11]? = some (.bool U.ld) := by rw [hcs]; rfl
  have c12 : cs[12]? = some (.bool U.ty) := by rw [hcs]; rfl
  have c13 : cs[13]? = some (.int .i64 U.ba) := by rw [hcs]; rfl
  have c14 : cs[14]? = some (.slice a4 U.ye.length k4) := by rw [hcs]; rfl
  have c15 : cs[15]? = some (.slice a5 U.be.length k5) := by rw [hcs]; rfl
  have c16 : cs[16]? = some (.slice a6 U.ac.length k6) := by rw [hcs]; rfl
  have c17 : cs[17]? = some (.int .i64 U.hd) := by rw [hcs]; rfl
  have hm := h.l2.max
  unfold maxLen at hm
  clear h hcs hn
  have HE : Hid (validR U = (inB 1 5 U.of && (inB 1 U.of U.nu && (diskB U.sf && (diskB U.dk && (decide (U.he.length ≤ 400) && (wishB U.wi && (inB 0 1000000 U.hd && restB U)))))))) := rfl
  go_enter Try.func36, Try.ntmps36
  go_wp2_with fail
  generalize hWa : w.alloc _ = Wa
  have HB : Hid (Below w.heap.size w Wa) := by unfold Hid; rw [← hWa]; exact (one_al w _)
  have F : Hid (Box Wa w.heap.size cs.toArray) := by unfold Hid; rw [← hWa]; exact (Box.new _ _ _ _ rfl)
  clear hWa
  refine (in21_any _ _ _ _).mono ?_
  rintro e wt ⟨rfl, hw⟩
  rw [hw]
  clear hw wt
  cases q1 : inB 1 5 U.of with
  | false =>
    have HNo : Hid (validR U = false) := by unfold Hid; rw [HE.out, q1]; rfl
    go_wp2
    go_ret
    exact ⟨ret_bool HNo.out.symm, HB.out⟩
  | true =>
  have g0 : Wa.cell? ⟨w.heap.size, 0, none⟩ = some (.int .i64 U.nu) := by rw [F.out.cell 0, List.getElem?_toArray]; exact c0
  have g1 : Wa.cell? ⟨w.heap.size, 1, none⟩ = some (.int .i64 U.of) := by rw [F.out.cell 1, List.getElem?_toArray]; exact c1
  go_wp2_with fail
  clear g0 g1
  refine (in21_any _ _ _ _).mono ?_
  rintro e wt ⟨rfl, hw⟩
  rw [hw]
  clear hw wt
  cases q2 : inB 1 U.of U.nu with
  | false =>
    have HNo : Hid (validR U = false) := by unfold Hid; rw [HE.out, q1, q2]; rfl
    go_wp2
    go_ret
    exact ⟨ret_bool HNo.out.symm, HB.out⟩
  | true =>
  have g3 : Wa.cell? ⟨w.heap.size, 3, none⟩ = some (.int .i64 U.sf.pr) := by rw [F.out.cell 3, List.getElem?_toArray]; exact c3
  have g4 : Wa.cell? ⟨w.heap.size, 4, none⟩ = some (.int .i64 U.sf.kn) := by rw [F.out.cell 4, List.getElem?_toArray]; exact c4
  have g5 : Wa.cell? ⟨w.heap.size, 5, none⟩ = some (.slice a0 U.sf.sl.length k0) := by rw [F.out.cell 5, List.getElem?_toArray]; exact c5
  go_wp2_with fail
  clear g3 g4 g5
  refine (specDisk_any lo _ U.sf _ ⟨_, _, rfl, ⟨(HL.out.below HB.out).l0⟩⟩).mono ?_
  rintro e w1 ⟨rfl, hb⟩
  replace HB : Hid (Below w.heap.size w w1) := bt HB.out hb
  replace F := hide (F.out.on hb)
  clear hb
  cases q3 : diskB U.sf with
  | false =>
    have HNo : Hid (validR U = false) := by unfold Hid; rw [HE.out, q1, q2, q3]; rfl
    go_wp2
    go_ret
    exact ⟨ret_bool HNo.out.symm, HB.out⟩
  | true =>
  have g6 : w1.cell? ⟨w.heap.size, 6, none⟩ = some (.int .i64 U.dk.pr) := by rw [F.out.cell 6, List.getElem?_toArray]; exact c6
  have g7 : w1.cell? ⟨w.heap.size, 7, none⟩ = some (.int .i64 U.dk.kn) := by rw [F.out.cell 7, List.getElem?_toArray]; exact c7
  have g8 : w1.cell? ⟨w.heap.size, 8, none⟩ = some (.slice a1 U.dk.sl.length k1) := by rw [F.out.cell 8, List.getElem?_toArray]; exact c8
  go_wp2_with fail
  clear g6 g7 g8
  refine (specDisk_any lo _ U.dk _ ⟨_, _, rfl, ⟨(HL.out.below HB.out).l1⟩⟩).mono ?_
  rintro e w2 ⟨rfl, hb⟩
  replace HB : Hid (Below w.heap.size w w2) := bt HB.out hb
  replace F := hide (F.out.on hb)
  clear hb
  cases q4 : diskB U.dk with
  | false =>
    have HNo : Hid (validR U = false) := by unfold Hid; rw [HE.out, q1, q2, q3, q4]; rfl
    go_wp2
    go_ret
    exact ⟨ret_bool HNo.out.symm, HB.out⟩
  | true =>
  by_cases q5 : U.he.length ≤ 400
  case neg =>
    have d5 : decide ((400 : Int) < (U.he.length : Int)) = true := by simp; omega
    have HNo : Hid (validR U = false) := by unfold Hid; rw [HE.out, q1, q2, q3, q4, decide_eq_false q5]; rfl
    have g9 : w2.cell? ⟨w.heap.size, 9, none⟩ = some (.slice a2 U.he.length k2) := by rw [F.out.cell 9, List.getElem?_toArray]; exact c9
    go_wp2
    go_ret
    exact ⟨ret_bool HNo.out.symm, HB.out⟩
  have d5 : decide ((400 : Int) < (U.he.length : Int)) = false := by simp; omega
  have g9 : w2.cell? ⟨w.heap.size, 9, none⟩ = some (.slice a2 U.he.length k2) := by rw [F.out.cell 9, List.getElem?_toArray]; exact c9
  have g10 : w2.cell? ⟨w.heap.size, 10, none⟩ = some (.slice a3 U.wi.length k3) := by rw [F.out.cell 10, List.getElem?_toArray]; exact c10
  go_wp2_with fail
  clear g9 g10
  refine (l22Wishes_any lo _ U.wi _ (HL.out.below HB.out).l3).mono ?_
  rintro e w3 ⟨rfl, hb⟩
  replace HB : Hid (Below w.heap.size w w3) := bt HB.out hb
  replace F := hide (F.out.on hb)
  clear hb
  cases q6 : wishB U.wi with
  | false =>
    have HNo : Hid (validR U = false) := by unfold Hid; rw [HE.out, q1, q2, q3, q4, decide_eq_true q5, q6]; rfl
    go_wp2
    go_ret
    exact ⟨ret_bool HNo.out.symm, HB.out⟩
  | true =>
  have g17 : w3.cell? ⟨w.heap.size, 17, none⟩ = some (.int .i64 U.hd) := by rw [F.out.cell 17, List.getElem?_toArray]; exact c17
  go_wp2_with fail
  clear g17
  refine (in21_any _ _ _ _).mono ?_
  rintro e wt ⟨rfl, hw⟩
  rw [hw]
  clear hw wt
  cases q7 : inB 0 1000000 U.hd with
  | false =>
    have HNo : Hid (validR U = false) := by unfold Hid; rw [HE.out, q1, q2, q3, q4, decide_eq_true q5, q6, q7]; rfl
    go_wp2
    go_ret
    exact ⟨ret_bool HNo.out.symm, HB.out⟩
  | true =>
  have HR' : Hid (validR U = restB U) := by unfold Hid; rw [HE.out, q1, q2, q3, q4, decide_eq_true q5, q6, q7]; rfl
  clear HE
  have HE1 : Hid (restB U = ((List.range U.he.length).all (heldB U) && (numsB U.of U.ye && (slotsB U.be && (acksB U.of U.ac && (!(U.ld && U.ty) && (leadB U && (U.up || (quietB U && ((U.he.length + U.wi.length : Nat) + U.hd == 0)))))))))) := rfl
  have HQ7 := hide q7
  go_wp2
  go_loopw [3] (fun i wr => ∃ k : Nat, i = .int .i64 k ∧ k ≤ U.he.length ∧ Below w3.heap.size w3 wr ∧ ∀ j, j < k → heldB U j = true) (fun i _ => U.he.length - (intOf i).toNat)
  case atStart => exact ⟨0, rfl, by omega, Below.refl _ _, fun j h => by omega⟩
  case round =>
    obtain ⟨k, rfl, hk, hb, hall⟩ := hrel
    have HAL := hide hall
    have HBr := hide hb
    have FR := hide (F.out.on hb)
    have y : wr.cell? ⟨w.heap.size, 9, none⟩ = some (.slice a2 U.he.length k2) := by rw [FR.out.cell 9, List.getElem?_toArray]; exact c9
    clear hall hb
    by_cases hlt : k < U.he.length
    · obtain ⟨b, off, hab, hbw, -, hc⟩ := (HL.out.below HB.out).l2.full' (by omega)
      subst hab
      obtain ⟨m, hm'⟩ : ∃ m, m = U.he[k] := ⟨_, rfl⟩
      have HDK : Hid (heldB U k = (msgB m U.of && m.fr == U.nu)) := by unfold Hid heldB; rw [List.getElem?_eq_getElem hlt, hm']
      obtain ⟨ms, hr, b0, m0, rfl, hf⟩ := hc k hlt
      rw [← hm'] at hf hr
      have HM : Hid (RmC lo wr (rmL m b0 m0) m) := ⟨_, _, rfl, hf.below HBr.out⟩
      have HR := hide (rng_below hr HBr.out hbw)
      clear hc hr hf hm'
      go_wp2
      go_cut [72] (fun c wc => c = .bool (!(heldB U k)) ∧ Below wr.heap.size wr wc)
      case first =>
        have xn : Nonempty (In (Up wr)) := ⟨⟨wr, Below.refl _ _⟩⟩
        have xs := fun (X : In (Up wr)) => in_self X
        have x0 : ∀ X : In (Up wr), X.w.cell? ⟨w.heap.size, 0, none⟩ = some (.int .i64 U.nu) := fun X => Up.cell X (by rw [FR.out.cell 0, List.getElem?_toArray]; exact c0)
        have x1 : ∀ X : In (Up wr), X.w.cell? ⟨w.heap.size, 1, none⟩ = some (.int .i64 U.of) := fun X => Up.cell X (by rw [FR.out.cell 1, List.getElem?_toArray]; exact c1)
        have x9 : ∀ X : In (Up wr), X.w.cell? ⟨w.heap.size, 9, none⟩ = some (.slice (some ⟨b, off, none⟩) U.he.length k2) := fun X => Up.cell X y
        have s0 : ∀ X : In (Up wr), X.w.cell? ⟨b, off + k * 8, none⟩ = some (.int .i64 m.kd) := fun X => Up.cell X (HR.out 0 _ rfl)
        have s1 : ∀ X : In (Up wr), X.w.cell? ⟨b, off + k * 8 + 1, none⟩ = some (.int .i64 m.fr) := fun X => Up.cell X (HR.out 1 _ rfl)
        have s2 : ∀ X : In (Up wr), X.w.cell? ⟨b, off + k * 8 + 2, none⟩ = some (.int .i64 m.tt) := fun X => Up.cell X (HR.out 2 _ rfl)
        have s3 : ∀ X : In (Up wr), X.w.cell? ⟨b, off + k * 8 + 3, none⟩ = some (.int .i64 m.ba) := fun X => Up.cell X (HR.out 3 _ rfl)
        have s4 : ∀ X : In (Up wr), X.w.cell? ⟨b, off + k * 8 + 4, none⟩ = some (.int .i64 m.ix) := fun X => Up.cell X (HR.out 4 _ rfl)
        have s5 : ∀ X : In (Up wr), X.w.cell? ⟨b, off + k * 8 + 5, none⟩ = some (.int .i64 m.kn) := fun X => Up.cell X (HR.out 5 _ rfl)
        have s6 : ∀ X : In (Up wr), X.w.cell? ⟨b, off + k * 8 + 6, none⟩ = some (.string m.tx) := fun X => Up.cell X (HR.out 6 _ rfl)
        have s7 : ∀ X : In (Up wr), X.w.cell? ⟨b, off + k * 8 + 7, none⟩ = some (.slice b0 m.sl.length m0) := fun X => Up.cell X (HR.out 7 _ rfl)
        have i0 : (0 : Int) ≤ (k : Int) := by omega
        have i1 : (k : Int) < (U.he.length : Int) := by omega
        clear y
        refine wp_region_class (Up wr) (by kernel_rfl) (by kernel_rfl) ((Below.refl _ _).drew) ?_
        cases r1 : msgB m U.of with
        | false =>
          repeat (go_big_quiet_step ((go_at_call 37; rename_i Y; exact (specMsg_any lo _ m U.of _ (HM.out.below Y.h)).mono fun _ _ h => ⟨h.1, Up.next Y h.2⟩)))
          refine wpQuiet_nil ?_
          intro wn hw
          obtain ⟨X, hX⟩ := hw
          have HWN : Below wr.heap.size wr wn := by rw [hX]; exact X.h
          clear hX X x0 x1 x9 s0 s1 s2 s3 s4 s5 s6 s7 xs xn
          go_wp2
          go_meet
          exact ⟨congrArg Value.bool (by rw [HDK.out, r1]; rfl), HWN⟩
        | true =>
          cases r2 : (m.fr == U.nu) with
          | false =>
            repeat (go_big_quiet_step ((go_at_call 37; rename_i Y; exact (specMsg_any lo _ m U.of _ (HM.out.below Y.h)).mono fun _ _ h => ⟨h.1, Up.next Y h.2⟩)))
            refine wpQuiet_nil ?_
            intro wn hw
            obtain ⟨X, hX⟩ := hw
            have HWN : Below wr.heap.size wr wn := by rw [hX]; exact X.h
            clear hX X x0 x1 x9 s0 s1 s2 s3 s4 s5 s6 s7 xs xn
            go_wp2
            go_meet
            exact ⟨congrArg Value.bool (by rw [HDK.out, r1, bne, r2]; rfl), HWN⟩
          | true =>
            repeat (go_big_quiet_step ((go_at_call 37; rename_i Y; exact (specMsg_any lo _ m U.of _ (HM.out.below Y.h)).mono fun _ _ h => ⟨h.1, Up.next Y h.2⟩)))
            refine wpQuiet_nil ?_
            intro wn hw
            obtain ⟨X, hX⟩ := hw
            have HWN : Below wr.heap.size wr wn := by rw [hX]; exact X.h
            clear hX X x0 x1 x9 s0 s1 s2 s3 s4 s5 s6 s7 xs xn
            go_wp2
            go_meet
            exact ⟨congrArg Value.bool (by rw [HDK.out, r1, bne, r2]; rfl), HWN⟩
      case rest =>
      obtain ⟨rfl, hbc⟩ := hcut
      have HBc : Hid (Below w3.heap.size w3 wc) := bt HBr.out hbc
      clear hbc y
      cases h7 : heldB U k with
      | false =>
        have HNo : Hid (validR U = false) := by unfold Hid; rw [HR'.out, HE1.out, range_not hlt h7]; rfl
        go_wp2
        go_ret
        exact ⟨ret_bool HNo.out.symm, bt HB.out HBc.out⟩
      | true =>
        have HT := hide h7
        go_wp2
        go_roundw
        case rel => exact ⟨k + 1, by go_num, by omega, HBc.out, fun j hj => by
                      by_cases e : j = k
                      · rw [e]; exact HT.out
                      · exact HAL.out j (by omega)⟩
        case measure => simp [intOf]; omega
    · have HE2 : Hid (restB U = (numsB U.of U.ye && (slotsB U.be && (acksB U.of U.ac && (!(U.ld && U.ty) && (leadB U && (U.up || (quietB U && ((U.he.length + U.wi.length : Nat) + U.hd == 0))))))))) := by unfold Hid; rw [HE1.out, range_all (fun i hi => HAL.out i (by omega))]; rfl
      have HB3 : Hid (Below w.heap.size w wr) := bt HB.out HBr.out
      have g14 : wr.cell? ⟨w.heap.size, 14, none⟩ = some (.slice a4 U.ye.length k4) := by rw [FR.out.cell 14, List.getElem?_toArray]; exact c14
      have g1 : wr.cell? ⟨w.heap.size, 1, none⟩ = some (.int .i64 U.of) := by rw [FR.out.cell 1, List.getElem?_toArray]; exact c1
      go_wp2_with fail
      clear g14 g1 y
      refine (l22Numbers_any lo _ U.ye U.of _ (HL.out.below HB3.out).l4).mono ?_
      rintro e w4 ⟨rfl, hb⟩
      have HB4 : Hid (Below w.heap.size w w4) := bt HB3.out hb
      have F4 := hide (FR.out.on hb)
      clear hb
      cases q8 : numsB U.of U.ye with
      | false =>
        have HNo : Hid (validR U = false) := by unfold Hid; rw [HR'.out, HE2.out, q8]; rfl
        go_wp2
        go_ret
        exact ⟨ret_bool HNo.out.symm, HB4.out⟩
      | true =>
      have g15 : w4.cell? ⟨w.heap.size, 15, none⟩ = some (.slice a5 U.be.length k5) := by rw [F4.out.cell 15, List.getElem?_toArray]; exact c15
      go_wp2_with fail
      clear g15
      refine (slotsOk_any lo _ U.be _ (HL.out.below HB4.out).l5).mono ?_
      rintro e wt ⟨rfl, hw⟩
      rw [hw]
      clear hw wt
      cases q9 : slotsB U.be with
      | false =>
        have HNo : Hid (validR U = false) := by unfold Hid; rw [HR'.out, HE2.out, q8, q9]; rfl
        go_wp2
        go_ret
        exact ⟨ret_bool HNo.out.symm, HB4.out⟩
      | true =>
      have g16 : w4.cell? ⟨w.heap.size, 16, none⟩ = some (.slice a6 U.ac.length k6) := by rw [F4.out.cell 16, List.getElem?_toArray]; exact c16
      have g1 : w4.cell? ⟨w.heap.size, 1, none⟩ = some (.int .i64 U.of) := by rw [F4.out.cell 1, List.getElem?_toArray]; exact c1
      go_wp2_with fail
      clear g16 g1
      refine (l22Acks_any lo _ U.ac U.of _ (HL.out.below HB4.out).l6).mono ?_
      rintro e w5 ⟨rfl, hb⟩
      have HB5 : Hid (Below w.heap.size w w5) := bt HB4.out hb
      have F5 := hide (F4.out.on hb)
      clear hb
      cases q10 : acksB U.of U.ac with
      | false =>
        have HNo : Hid (validR U = false) := by unfold Hid; rw [HR'.out, HE2.out, q8, q9, q10]; rfl
        go_wp2
        go_ret
        exact ⟨ret_bool HNo.out.symm, HB5.out⟩
      | true =>
      have HE3 : Hid (validR U = (!(U.ld && U.ty) && (leadB U && (U.up || (quietB U && ((U.he.length + U.wi.length : Nat) + U.hd == 0)))))) := by unfold Hid; rw [HR'.out, HE2.out, q8, q9, q10]; rfl
      clear HE2 HE1 HR' HBr FR HB4 F4
      have HLd : Hid (leadB U = if U.ld || U.ty then inB 1 U.dk.pr U.ba && (!(U.ty && decide (0 < U.ac.length)) && !(U.ld && decide (0 < U.ye.length + U.be.length))) else quietB U) := rfl
      have HQd : Hid (quietB U = (!U.ld && (!U.ty && (U.ba == 0 && decide (U.ye.length + U.be.length + U.ac.length = 0))))) := rfl
      have HZ : Hid ((Try.prog.info? 51).map (·.size) = some cs.length) := by unfold Hid; rw [HC.out.len]; exact sizeRr
      cases ql : U.ld with
      | true =>
        cases qt : U.ty with
        | true =>
          have g11 : w5.cell? ⟨w.heap.size, 11, none⟩ = some (.bool true) := by rw [F5.out.cell 11, List.getElem?_toArray, c11, ql]
          have g12 : w5.cell? ⟨w.heap.size, 12, none⟩ = some (.bool true) := by rw [F5.out.cell 12, List.getElem?_toArray, c12, qt]
          go_wp2
          go_ret
          exact ⟨ret_bool (by rw [HE3.out, ql, qt]; rfl), HB5.out⟩
        | false =>
          have g11 : w5.cell? ⟨w.heap.size, 11, none⟩ = some (.bool true) := by rw [F5.out.cell 11, List.getElem?_toArray, c11, ql]
          have g12 : w5.cell? ⟨w.heap.size, 12, none⟩ = some (.bool false) := by rw [F5.out.cell 12, List.getElem?_toArray, c12, qt]
          have g13 : w5.cell? ⟨w.heap.size, 13, none⟩ = some (.int .i64 U.ba) := by rw [F5.out.cell 13, List.getElem?_toArray, c13]
          have g6 : w5.cell? ⟨w.heap.size, 6, none⟩ = some (.int .i64 U.dk.pr) := by rw [F5.out.cell 6, List.getElem?_toArray, c6]
          go_wp2_with fail
          clear g13 g6
          refine (in21_any _ _ _ _).mono ?_
          rintro e wt ⟨rfl, hw⟩
          rw [hw]
          clear hw wt
          have hqn : quietB U = false := by rw [HQd.out, ql]; rfl
          have HQN := hide hqn
          clear hqn
          cases q11 : inB 1 U.dk.pr U.ba with
          | false =>
            go_wp2
            go_ret
            exact ⟨ret_bool (by rw [HE3.out, HLd.out, ql, qt, q11]; rfl), HB5.out⟩
          | true =>
            have n4 := HN.out.2.2.2.2.1
            have n5 := HN.out.2.2.2.2.2.1.1
            unfold RisSmall at n4
            have g14 : w5.cell? ⟨w.heap.size, 14, none⟩ = some (.slice a4 U.ye.length k4) := by rw [F5.out.cell 14, List.getElem?_toArray, c14]
            have g15 : w5.cell? ⟨w.heap.size, 15, none⟩ = some (.slice a5 U.be.length k5) := by rw [F5.out.cell 15, List.getElem?_toArray, c15]
            by_cases z : 0 < U.ye.length + U.be.length
            · have dz : decide ((0 : Int) < (U.ye.length : Int) + (U.be.length : Int)) = true := by rw [decide_eq_true_eq]; omega
              go_wp2
              go_ret
              exact ⟨ret_bool (by rw [HE3.out, HLd.out, ql, qt, q11, decide_eq_true z]; rfl), HB5.out⟩
            have dz : decide ((0 : Int) < (U.ye.length : Int) + (U.be.length : Int)) = false := by rw [decide_eq_false_iff_not]; omega
            cases qu : U.up with
            | true =>
              have g2 : w5.cell? ⟨w.heap.size, 2, none⟩ = some (.bool true) := by rw [F5.out.cell 2, List.getElem?_toArray, c2, qu]
              go_wp2
              go_ret
              exact ⟨ret_bool (by rw [HE3.out, HLd.out, ql, qt, q11, decide_eq_false z, qu]; rfl), HB5.out⟩
            | false =>
              have g2 : w5.cell? ⟨w.heap.size, 2, none⟩ = some (.bool false) := by rw [F5.out.cell 2, List.getElem?_toArray, c2, qu]
              go_wp2_with (first | (with_reducible refine wpList_load_mid (by with_reducible rfl) 51 (.tmp 1) (by with_reducible rfl) w.heap.size 0 (by with_unfolding_all rfl) cs _ (F5.out.range rfl) Try.underlying51 (by with_unfolding_all rfl) HZ.out ?_) | (with_reducible refine wpList_load_gd (by with_unfolding_all rfl) 51 (.tmp 1) (by with_reducible rfl) w.heap.size 0 (by with_unfolding_all rfl) cs _ (F5.out.range rfl) Try.underlying51 (by with_unfolding_all rfl) HZ.out ?_))
              refine (l22Quiet_any lo cs U _ (HC.out.below HB5.out) HN.out).mono ?_
              rintro e w7 ⟨rfl, hb⟩
              have HBw7 : Hid (Below w.heap.size w w7) := bt HB5.out hb
              have Fw7 := hide (F5.out.on hb)
              clear hb
              rw [HQN.out]
              go_wp2
              go_ret
              exact ⟨ret_bool (by rw [HE3.out, HLd.out, ql, qt, q11, decide_eq_false z, qu, HQN.out]; rfl), HBw7.out⟩
      | false =>
        cases qt : U.ty with
        | true =>
          have g11 : w5.cell? ⟨w.heap.size, 11, none⟩ = some (.bool false) := by rw [F5.out.cell 11, List.getElem?_toArray, c11, ql]
          have g12 : w5.cell? ⟨w.heap.size, 12, none⟩ = some (.bool true) := by rw [F5.out.cell 12, List.getElem?_toArray, c12, qt]
          have g13 : w5.cell? ⟨w.heap.size, 13, none⟩ = some (.int .i64 U.ba) := by rw [F5.out.cell 13, List.getElem?_toArray, c13]
          have g6 : w5.cell? ⟨w.heap.size, 6, none⟩ = some (.int .i64 U.dk.pr) := by rw [F5.out.cell 6, List.getElem?_toArray, c6]
          go_wp2_with fail
          clear g13 g6
          refine (in21_any _ _ _ _).mono ?_
          rintro e wt ⟨rfl, hw⟩
          rw [hw]
          clear hw wt
          have hqn : quietB U = false := by rw [HQd.out, ql, qt]; rfl
          have HQN := hide hqn
          clear hqn
          cases q11 : inB 1 U.dk.pr U.ba with
          | false =>
            go_wp2
            go_ret
            exact ⟨ret_bool (by rw [HE3.out, HLd.out, ql, qt, q11]; rfl), HB5.out⟩
          | true =>
            have n4 := HN.out.2.2.2.2.1
            have n5 := HN.out.2.2.2.2.2.1.1
            unfold RisSmall at n4
            have HA16 : Hid (cs[16]? = some (.slice a6 U.ac.length k6)) := c16
            clear c16
            obtain ⟨na, hna⟩ : ∃ n : Nat, n = U.ac.length := ⟨_, rfl⟩
            have hnm : na ≤ 1048576 := by rw [hna]; exact HN.out.2.2.2.2.2.2.1
            have HNA := hide hna
            have g16 : w5.cell? ⟨w.heap.size, 16, none⟩ = some (.slice a6 na k6) := by rw [F5.out.cell 16, List.getElem?_toArray, HNA.out]; exact HA16.out
            clear hna
            by_cases z : 0 < na
            · have dz : decide ((0 : Int) < (na : Int)) = true := by rw [decide_eq_true_eq]; omega
              go_wp2
              go_ret
              exact ⟨ret_bool (by rw [HE3.out, HLd.out, ql, qt, q11, ← HNA.out, decide_eq_true z]; rfl), HB5.out⟩
            obtain rfl : na = 0 := by omega
            have HZA : Hid (decide (0 < U.ac.length) = false) := by unfold Hid; rw [← HNA.out]; rfl
            clear z hnm
            cases qu : U.up with
            | true =>
              have g2 : w5.cell? ⟨w.heap.size, 2, none⟩ = some (.bool true) := by rw [F5.out.cell 2, List.getElem?_toArray, c2, qu]
              go_wp2
              go_ret
              exact ⟨ret_bool (by rw [HE3.out, HLd.out, ql, qt, q11, HZA.out, qu]; rfl), HB5.out⟩
            | false =>
              have g2 : w5.cell? ⟨w.heap.size, 2, none⟩ = some (.bool false) := by rw [F5.out.cell 2, List.getElem?_toArray, c2, qu]
              go_wp2_with (first | (with_reducible refine wpList_load_mid (by with_reducible rfl) 51 (.tmp 1) (by with_reducible rfl) w.heap.size 0 (by with_unfolding_all rfl) cs _ (F5.out.range rfl) Try.underlying51 (by with_unfolding_all rfl) HZ.out ?_) | (with_reducible refine wpList_load_gd (by with_unfolding_all rfl) 51 (.tmp 1) (by with_reducible rfl) w.heap.size 0 (by with_unfolding_all rfl) cs _ (F5.out.range rfl) Try.underlying51 (by with_unfolding_all rfl) HZ.out ?_))
              refine (l22Quiet_any lo cs U _ (HC.out.below HB5.out) HN.out).mono ?_
              rintro e w7 ⟨rfl, hb⟩
              have HBw7 : Hid (Below w.heap.size w w7) := bt HB5.out hb
              have Fw7 := hide (F5.out.on hb)
              clear hb
              rw [HQN.out]
              go_wp2
              go_ret
              exact ⟨ret_bool (by rw [HE3.out, HLd.out, ql, qt, q11, HZA.out, qu, HQN.out]; rfl), HBw7.out⟩
        | false =>
          have g11 : w5.cell? ⟨w.heap.size, 11, none⟩ = some (.bool false) := by rw [F5.out.cell 11, List.getElem?_toArray, c11, ql]
          have g12 : w5.cell? ⟨w.heap.size, 12, none⟩ = some (.bool false) := by rw [F5.out.cell 12, List.getElem?_toArray, c12, qt]
          go_wp2_with (first | (with_reducible refine wpList_load_mid (by with_reducible rfl) 51 (.tmp 1) (by with_reducible rfl) w.heap.size 0 (by with_unfolding_all rfl) cs _ (F5.out.range rfl) Try.underlying51 (by with_unfolding_all rfl) HZ.out ?_) | (with_reducible refine wpList_load_gd (by with_unfolding_all rfl) 51 (.tmp 1) (by with_reducible rfl) w.heap.size 0 (by with_unfolding_all rfl) cs _ (F5.out.range rfl) Try.underlying51 (by with_unfolding_all rfl) HZ.out ?_))
          refine (l22Quiet_any lo cs U _ (HC.out.below HB5.out) HN.out).mono ?_
          rintro e w6 ⟨rfl, hb⟩
          have HBw6 : Hid (Below w.heap.size w w6) := bt HB5.out hb
          have Fw6 := hide (F5.out.on hb)
          clear hb
          clear g11 g12
          cases qq : quietB U with
          | false =>
            go_wp2
            go_ret
            exact ⟨ret_bool (by rw [HE3.out, HLd.out, ql, qt, qq]; rfl), HBw6.out⟩
          | true =>
            cases qu : U.up with
            | true =>
              have g2 : w6.cell? ⟨w.heap.size, 2, none⟩ = some (.bool true) := by rw [Fw6.out.cell 2, List.getElem?_toArray, c2, qu]
              go_wp2
              go_ret
              exact ⟨ret_bool (by rw [HE3.out, HLd.out, ql, qt, qq, qu]; rfl), HBw6.out⟩
            | false =>
              have g2 : w6.cell? ⟨w.heap.size, 2, none⟩ = some (.bool false) := by rw [Fw6.out.cell 2, List.getElem?_toArray, c2, qu]
              go_wp2_with (first | (with_reducible refine wpList_load_mid (by with_reducible rfl) 51 (.tmp 1) (by with_reducible rfl) w.heap.size 0 (by with_unfolding_all rfl) cs _ (Fw6.out.range rfl) Try.underlying51 (by with_unfolding_all rfl) HZ.out ?_) | (with_reducible refine wpList_load_gd (by with_unfolding_all rfl) 51 (.tmp 1) (by with_reducible rfl) w.heap.size 0 (by with_unfolding_all rfl) cs _ (Fw6.out.range rfl) Try.underlying51 (by with_unfolding_all rfl) HZ.out ?_))
              refine (l22Quiet_any lo cs U _ (HC.out.below HBw6.out) HN.out).mono ?_
              rintro e w7 ⟨rfl, hb⟩
              have HBw7 : Hid (Below w.heap.size w w7) := bt HBw6.out hb
              have Fw7 := hide (Fw6.out.on hb)
              clear hb
              clear g2
              rw [qq]
              have g9 : w7.cell? ⟨w.heap.size, 9, none⟩ = some (.slice a2 U.he.length k2) := by rw [Fw7.out.cell 9, List.getElem?_toArray, c9]
              have g10 : w7.cell? ⟨w.heap.size, 10, none⟩ = some (.slice a3 U.wi.length k3) := by rw [Fw7.out.cell 10, List.getElem?_toArray, c10]
              have g17 : w7.cell? ⟨w.heap.size, 17, none⟩ = some (.int .i64 U.hd) := by rw [Fw7.out.cell 17, List.getElem?_toArray, c17]
              obtain ⟨-, -, ⟨n2, -⟩, n3, -⟩ := HN.out
              unfold RtsSmall at n3
              have n7 := HQ7.out
              simp only [inB_eq, Bool.and_eq_true, decide_eq_true_eq] at n7
              go_wp2
              go_ret
              refine ⟨ret_bool ?_, HBw7.out⟩
              rw [HE3.out, HLd.out, ql, qt, qq, qu, Bool.eq_iff_iff]
              simp only [Bool.and_false, Bool.not_false, Bool.true_and, Bool.false_or, Bool.false_eq_true, if_false, beq_iff_eq]
              omega
end Go.Proofs.Ytoklnkojacdciaa
