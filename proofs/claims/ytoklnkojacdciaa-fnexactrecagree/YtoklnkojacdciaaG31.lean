import Derived.Test.YtoklnkojacdciaaG30
namespace Go.Proofs.Ytoklnkojacdciaa
open Go.RowKit Go.Deep

set_option maxRecDepth 20000 in
set_option maxHeartbeats 8000000 in
theorem heldI_any (lo : Nat) (cs : List Value) (U : Rr) (w : World) (h : RrC lo w cs U) :
    Calls Try.prog 99 #[.agg cs.toArray] w fun e w' => e = .returned (.bool (decide (U.he.length ≤ 400) && (List.range U.he.length).all (heldB U))) ∧ Below w.heap.size w w' := by
  obtain ⟨a0, k0, a1, k1, a2, k2, a3, k3, a4, k4, a5, k5, a6, k6, hcs, h⟩ := h
  have HL := hide h
  have c0 : cs[0]? = some (.int .i64 U.nu) := by rw [hcs]; rfl
  have c1 : cs[1]? = some (.int .i64 U.of) := by rw [hcs]; rfl
  have c9 : cs[9]? = some (.slice a2 U.he.length k2) := by rw [hcs]; rfl
  have hm := h.l2.max
  unfold maxLen at hm
  clear h hcs
  obtain ⟨R, hR⟩ : ∃ R, R = (decide (U.he.length ≤ 400) && (List.range U.he.length).all (heldB U)) := ⟨_, rfl⟩
  rw [← hR]
  have HR' := hide hR
  clear hR
  by_cases q5 : U.he.length ≤ 400
  case neg =>
    have d5 : decide ((400 : Int) < (U.he.length : Int)) = true := by simp; omega
    go_enter Try.func99, Try.ntmps99
    go_wp2
    go_ret
    exact ⟨ret_bool (by rw [HR'.out, decide_eq_false q5]; rfl), one_al _ _⟩
  have d5 : decide ((400 : Int) < (U.he.length : Int)) = false := by simp; omega
  have HE1 : Hid (R = (List.range U.he.length).all (heldB U)) := by unfold Hid; rw [HR'.out, decide_eq_true q5]; rfl
  clear HR'
  go_enter Try.func99, Try.ntmps99
  go_wp2
  clear d5
  generalize hWa : w.alloc _ = Wa
  have HB : Hid (Below w.heap.size w Wa) := by unfold Hid; rw [← hWa]; exact (one_al w _)
  have F : Hid (Box Wa w.heap.size cs.toArray) := by unfold Hid; rw [← hWa]; exact (Box.new _ _ _ _ rfl)
  clear hWa
  go_loopw [12] (fun i wr => ∃ k : Nat, i = .int .i64 k ∧ k ≤ U.he.length ∧ Below Wa.heap.size Wa wr ∧ ∀ j, j < k → heldB U j = true) (fun i _ => U.he.length - (intOf i).toNat)
  case atStart => exact ⟨0, rfl, by omega, Below.refl _ _, fun j h => by omega⟩
  case round =>
    obtain ⟨k, rfl, hk, hb, hall⟩ := hrel
    have HAL := hide hall
    have HBr := hide hb
    have FR := hide (F.out.on hb)
    clear hall hb
    by_cases hlt : k < U.he.length
    · obtain ⟨b, off, hab, hbw, -, hc⟩ := (HL.out.below HB.out).l2.full' (by omega)
      subst hab
      obtain ⟨m, hm'⟩ : ∃ m, m = U.he[k] := ⟨_, rfl⟩
      have HDK : Hid (heldB U k = (msgB m U.of && m.fr == U.nu)) := by unfold Hid heldB; rw [List.getElem?_eq_getElem hlt, hm']
      obtain ⟨ms, hr, b0, m0, rfl, hf⟩ := hc k hlt
      rw [← hm'] at hf hr
      have HM : Hid (RmC lo wr (rmL m b0 m0) m) := ⟨_, _, rfl, hf.below HBr.out⟩
      have HR := rng_below hr HBr.out hbw
      have s0 : wr.cell? ⟨b, off + k * 8, none⟩ = some (.int .i64 m.kd) := HR 0 _ rfl
      have s1 : wr.cell? ⟨b, off + k * 8 + 1, none⟩ = some (.int .i64 m.fr) := HR 1 _ rfl
      have s2 : wr.cell? ⟨b, off + k * 8 + 2, none⟩ = some (.int .i64 m.tt) := HR 2 _ rfl
      have s3 : wr.cell? ⟨b, off + k * 8 + 3, none⟩ = some (.int .i64 m.ba) := HR 3 _ rfl
      have s4 : wr.cell? ⟨b, off + k * 8 + 4, none⟩ = some (.int .i64 m.ix) := HR 4 _ rfl
      have s5 : wr.cell? ⟨b, off + k * 8 + 5, none⟩ = some (.int .i64 m.kn) := HR 5 _ rfl
      have s6 : wr.cell? ⟨b, off + k * 8 + 6, none⟩ = some (.string m.tx) := HR 6 _ rfl
      have s7 : wr.cell? ⟨b, off + k * 8 + 7, none⟩ = some (.slice b0 m.sl.length m0) := HR 7 _ rfl
      have x0 : ∀ o, (wr.alloc o).cell? ⟨w.heap.size, 0, none⟩ = some (.int .i64 U.nu) := fun o => by rw [(FR.out.on (one_al _ _)).cell 0, List.getElem?_toArray]; exact c0
      have x1 : ∀ o, (wr.alloc o).cell? ⟨w.heap.size, 1, none⟩ = some (.int .i64 U.of) := fun o => by rw [(FR.out.on (one_al _ _)).cell 1, List.getElem?_toArray]; exact c1
      have i0 : (0 : Int) ≤ (k : Int) := by omega
      have i1 : (k : Int) < (U.he.length : Int) := by omega
      clear hc hr hf hm' HR
      cases r2 : (m.fr == U.nu) with
      | false =>
        have hne : (m.fr != U.nu) = true := by rw [bne, r2]; rfl
        have HNo : Hid (R = false) := by unfold Hid; rw [HE1.out]; exact range_not hlt (by rw [HDK.out, r2]; simp)
        go_wp2
        go_ret
        exact ⟨ret_bool HNo.out.symm, bt (bt HB.out HBr.out) (one_al _ _)⟩
      | true =>
        have hne : (m.fr != U.nu) = false := by rw [bne, r2]; rfl
        cases r1 : msgB m U.of with
        | false =>
          have HNo : Hid (R = false) := by unfold Hid; rw [HE1.out]; exact range_not hlt (by rw [HDK.out, r1]; rfl)
          go_wp2_with (go_at_call 77; refine (implMsg_any lo _ m U.of _ (HM.out.below (one_al _ _))).mono ?_; rw [r1]; rintro e w1 ⟨rfl, hb1⟩; have HB1 := hide hb1; clear hb1)
          go_ret
          exact ⟨ret_bool HNo.out.symm, bt (bt HB.out HBr.out) (bt (one_al _ _) HB1.out)⟩
        | true =>
          have HT : Hid (heldB U k = true) := by unfold Hid; rw [HDK.out, r1, r2]; rfl
          go_wp2_with (go_at_call 77; refine (implMsg_any lo _ m U.of _ (HM.out.below (one_al _ _))).mono ?_; rw [r1]; rintro e w1 ⟨rfl, hb1⟩; have HB1 := hide hb1; clear hb1)
          go_roundw
          case rel => exact ⟨k + 1, by go_num, by omega, bt HBr.out (bt (one_al _ _) HB1.out), fun j hj => by
                        by_cases e : j = k
                        · rw [e]; exact HT.out
                        · exact HAL.out j (by omega)⟩
          case measure => simp [intOf]; omega
    · have HE2 : Hid (R = true) := by unfold Hid; rw [HE1.out]; exact range_all (fun i hi => HAL.out i (by omega))
      go_wp2
      go_ret
      exact ⟨ret_bool HE2.out.symm, bt HB.out HBr.out⟩
end Go.Proofs.Ytoklnkojacdciaa
