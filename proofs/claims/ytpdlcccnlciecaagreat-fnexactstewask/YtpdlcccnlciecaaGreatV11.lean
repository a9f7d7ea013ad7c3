import Derived.Test.YtpdlcccnlciecaaGreatV04
namespace Go.Proofs.YtpdlcccnlciecaaGreat
open Go.RowKit Go.Deep

theorem in_any (n lo hi : Int) (w : World) :
    Calls Tryz.prog 37 #[.int .i64 n, .int .i64 lo, .int .i64 hi] w fun e w' => e = .returned (.bool (inB lo hi n)) ∧ w' = w := by
  rw [inB_eq]
  by_cases h1 : lo ≤ n
  · by_cases h2 : n ≤ hi
    all_goals
      go_enter Tryz.func37, Tryz.ntmps37
      go_wp2
      go_ret
      exact ⟨ret_bool (by simp [h1, h2]), rfl⟩
  · go_enter Tryz.func37, Tryz.ntmps37
    go_wp2
    go_ret
    refine ⟨ret_bool ?_, rfl⟩
    rw [Bool.eq_iff_iff]; simp; omega

set_option maxHeartbeats 1000000 in
theorem nameOk_any (s : ByteArray) (w : World) (hs : s.size ≤ maxLen) :
    Calls Tryz.prog 39 #[.string s] w fun e w' => e = .returned (.bool (nmB s)) ∧ w' = w := by
  unfold maxLen at hs
  by_cases h1 : inB 1 20 s.size = true
  · have HB : Hid (nmB s = allB nameByte s) := by unfold Hid nmB; simp [h1]
    go_enter Tryz.func39, Tryz.ntmps39
    go_wp2_with (go_at_call 37; refine (in_any _ _ _ _).mono ?_; rintro e w' ⟨rfl, rfl⟩)
    go_loop [3] (fun i => ∃ k : Nat, k ≤ s.size ∧ i = .int .i64 k ∧ (s.data.toList.take k).all nameByte = true) (fun i => s.size - (intOf i).toNat)
    case atStart => exact ⟨0, Nat.zero_le _, rfl, rfl⟩
    case round =>
      obtain ⟨k, hk, rfl, hall⟩ := hrel
      have HA : Hid ((s.data.toList.take k).all nameByte = true) := hall
      clear hall
      by_cases hlt : k < s.size
      · have HYES : Hid (nameByte s[k] = true → (s.data.toList.take (k + 1)).all nameByte = true) := fun h => all_step HA.out hlt h
        have HNO : Hid (nameByte s[k] = false → nmB s = false) := fun h => by rw [HB.out, all_stop hlt h]
        have HIF : Hid (nameByte s[k] = true ↔ _) := nameByte_iff s[k]
        have HNF : Hid (∀ {p : Prop}, (nameByte s[k] = true ↔ p) → ¬p → nameByte s[k] = false) := fun h hp => by
          cases hq : nameByte s[k] with
          | false => rfl
          | true => exact absurd (h.1 hq) hp
        by_cases b1 : 97 ≤ (s[k].toNat : Int)
        · by_cases b2 : (s[k].toNat : Int) ≤ 122
          · have HS := hide (HYES.out (HIF.out.2 (by omega)))
            go_wp2
            go_round
            case rel => exact ⟨k + 1, by omega, by go_num, HS.out⟩
            case measure => simp [intOf]; omega
          · have b3 : 48 ≤ (s[k].toNat : Int) := by omega
            have b4 : ¬(s[k].toNat : Int) ≤ 57 := by omega
            have b5 : ((s[k].toNat : Int) == 45) = false := by rw [beq_eq_false_iff_ne]; omega
            have HS := hide (HNO.out (HNF.out HIF.out (by omega)))
            go_wp2
            go_ret
            exact ⟨ret_bool HS.out.symm, rfl⟩
        · by_cases b3 : 48 ≤ (s[k].toNat : Int)
          · by_cases b4 : (s[k].toNat : Int) ≤ 57
            · have HS := hide (HYES.out (HIF.out.2 (by omega)))
              go_wp2
              go_round
              case rel => exact ⟨k + 1, by omega, by go_num, HS.out⟩
              case measure => simp [intOf]; omega
            · have b5 : ((s[k].toNat : Int) == 45) = false := by rw [beq_eq_false_iff_ne]; omega
              have HS := hide (HNO.out (HNF.out HIF.out (by omega)))
              go_wp2
              go_ret
              exact ⟨ret_bool HS.out.symm, rfl⟩
          · by_cases b5 : (s[k].toNat : Int) = 45
            · have HS := hide (HYES.out (HIF.out.2 (by omega)))
              have b6 : ((s[k].toNat : Int) == 45) = true := by rw [beq_iff_eq]; exact b5
              clear b5
              go_wp2
              go_round
              case rel => exact ⟨k + 1, by omega, by go_num, HS.out⟩
              case measure => simp [intOf]; omega
            · have HS := hide (HNO.out (HNF.out HIF.out (by omega)))
              have b6 : ((s[k].toNat : Int) == 45) = false := by rw [beq_eq_false_iff_ne]; exact b5
              go_wp2
              go_ret
              exact ⟨ret_bool HS.out.symm, rfl⟩
      · go_wp2
        go_ret
        exact ⟨ret_bool (by rw [HB.out, all_end HA.out (by omega)]), rfl⟩
  · have h1' : inB 1 20 s.size = false := by simpa using h1
    have HB : Hid (nmB s = false) := by unfold Hid nmB; simp [h1']
    go_enter Tryz.func39, Tryz.ntmps39
    go_wp2_with (go_at_call 37; refine (in_any _ _ _ _).mono ?_; rintro e w' ⟨rfl, rfl⟩)
    go_ret
    exact ⟨ret_bool HB.out.symm, rfl⟩

set_option maxRecDepth 20000 in
set_option maxHeartbeats 8000000 in
theorem serviceOk_any (x : Sv) (now : Int) (w : World) (hz : SvSize x) :
    Calls Tryz.prog 38 #[.agg #[.string x.nm, .int .i64 x.ve, .bool x.gn, .int .i64 x.im, .int .i64 x.wa, .int .i64 x.dn, .int .i64 x.ov, .int .i64 x.nx, .int .i64 x.pr, .int .i64 x.ls, .int .i64 x.ms, .int .i64 x.ld, .int .i64 x.cl], .int .i64 now] w fun e w' => e = .returned (.bool (svB now x)) ∧ Below w.heap.size w w' := by
  have HI : Hid (svB now x = ((nmB x.nm && (inB 1 now x.ve && (inB 1 1000000 x.im && (inB 1 1000000 x.nx && (inB 0 10 x.wa && (inB 0 10 x.dn && (inB 0 10 x.ov && (!(x.dn + x.ov == 0) && perB x)))))))))) := rfl
  have s0 := hz.s0
  have HO : ∀ o, Hid (Below w.heap.size w (w.alloc o)) := fun o => one_al w o
  go_enter Tryz.func38, Tryz.ntmps38
  cases h0 : nmB x.nm with
  | false =>
    have HE : Hid (svB now x = false) := by unfold Hid; rw [HI.out, h0]; rfl
    go_wp2_with (first | (go_at_call 37; refine (in_any _ _ _ _).mono ?_; rintro e w' ⟨rfl, rfl⟩) | (go_at_call 39; refine (nameOk_any _ _ (by with_reducible assumption)).mono ?_; rintro e w' ⟨rfl, rfl⟩))
    go_ret
    exact ⟨ret_bool HE.out.symm, (HO _).out⟩
  | true =>
  cases h1 : inB 1 now x.ve with
  | false =>
    have HE : Hid (svB now x = false) := by unfold Hid; rw [HI.out, h0, h1]; rfl
    go_wp2_with (first | (go_at_call 37; refine (in_any _ _ _ _).mono ?_; rintro e w' ⟨rfl, rfl⟩) | (go_at_call 39; refine (nameOk_any _ _ (by with_reducible assumption)).mono ?_; rintro e w' ⟨rfl, rfl⟩))
    go_ret
    exact ⟨ret_bool HE.out.symm, (HO _).out⟩
  | true =>
  cases h2 : inB 1 1000000 x.im with
  | false =>
    have HE : Hid (svB now x = false) := by unfold Hid; rw [HI.out, h0, h1, h2]; rfl
    go_wp2_with (first | (go_at_call 37; refine (in_any _ _ _ _).mono ?_; rintro e w' ⟨rfl, rfl⟩) | (go_at_call 39; refine (nameOk_any _ _ (by with_reducible assumption)).mono ?_; rintro e w' ⟨rfl, rfl⟩))
    go_ret
    exact ⟨ret_bool HE.out.symm, (HO _).out⟩
  | true =>
  cases h3 : inB 1 1000000 x.nx with
  | false =>
    have HE : Hid (svB now x = false) := by unfold Hid; rw [HI.out, h0, h1, h2, h3]; rfl
    go_wp2_with (first | (go_at_call 37; refine (in_any _ _ _ _).mono ?_; rintro e w' ⟨rfl, rfl⟩) | (go_at_call 39; refine (nameOk_any _ _ (by with_reducible assumption)).mono ?_; rintro e w' ⟨rfl, rfl⟩))
    go_ret
    exact ⟨ret_bool HE.out.symm, (HO _).out⟩
  | true =>
  cases h4 : inB 0 10 x.wa with
  | false =>
    have HE : Hid (svB now x = false) := by unfold Hid; rw [HI.out, h0, h1, h2, h3, h4]; rfl
    go_wp2_with (first | (go_at_call 37; refine (in_any _ _ _ _).mono ?_; rintro e w' ⟨rfl, rfl⟩) | (go_at_call 39; refine (nameOk_any _ _ (by with_reducible assumption)).mono ?_; rintro e w' ⟨rfl, rfl⟩))
    go_ret
    exact ⟨ret_bool HE.out.symm, (HO _).out⟩
  | true =>
  cases h5 : inB 0 10 x.dn with
  | false =>
    have HE : Hid (svB now x = false) := by unfold Hid; rw [HI.out, h0, h1, h2, h3, h4, h5]; rfl
    go_wp2_with (first | (go_at_call 37; refine (in_any _ _ _ _).mono ?_; rintro e w' ⟨rfl, rfl⟩) | (go_at_call 39; refine (nameOk_any _ _ (by with_reducible assumption)).mono ?_; rintro e w' ⟨rfl, rfl⟩))
    go_ret
    exact ⟨ret_bool HE.out.symm, (HO _).out⟩
  | true =>
  cases h6 : inB 0 10 x.ov with
  | false =>
    have HE : Hid (svB now x = false) := by unfold Hid; rw [HI.out, h0, h1, h2, h3, h4, h5, h6]; rfl
    go_wp2_with (first | (go_at_call 37; refine (in_any _ _ _ _).mono ?_; rintro e w' ⟨rfl, rfl⟩) | (go_at_call 39; refine (nameOk_any _ _ (by with_reducible assumption)).mono ?_; rintro e w' ⟨rfl, rfl⟩))
    go_ret
    exact ⟨ret_bool HE.out.symm, (HO _).out⟩
  | true =>
  have hw : IntKind.i64.wrap (x.dn + x.ov) = x.dn + x.ov := by
    have := inB_lo h5
    have := inB_hi h5
    have := inB_lo h6
    have := inB_hi h6
    rw [IntWalk.i64_left]; unfold wrap64; omega
  cases h7 : (x.dn + x.ov == 0) with
  | true =>
    have HE : Hid (svB now x = false) := by unfold Hid; rw [HI.out, h0, h1, h2, h3, h4, h5, h6, h7]; rfl
    go_wp2_with (first | (go_at_call 37; refine (in_any _ _ _ _).mono ?_; rintro e w' ⟨rfl, rfl⟩) | (go_at_call 39; refine (nameOk_any _ _ (by with_reducible assumption)).mono ?_; rintro e w' ⟨rfl, rfl⟩))
    go_ret
    exact ⟨ret_bool HE.out.symm, (HO _).out⟩
  | false =>
  have HE : Hid (svB now x = perB x) := by unfold Hid; rw [HI.out, h0, h1, h2, h3, h4, h5, h6, h7]; rfl
  have HP : Hid (perB x = if x.pr == 0 then _ else _) := rfl
  cases h8 : (x.pr == 0) with
  | true =>
    have HP2 : Hid (svB now x = ((x.ls == 0) && ((x.ms == 0) && ((x.ld == 0) && (x.cl == 0))))) := by unfold Hid; rw [HE.out, HP.out, h8]; rfl
    have HEZ : ∀ o, Hid (Below w.heap.size w (w.alloc o)) := HO
    cases p0 : (x.ls == 0) with
    | false =>
      have HF : Hid (svB now x = false) := by unfold Hid; rw [HP2.out, p0]; rfl
      go_wp2_with (first | (go_at_call 37; refine (in_any _ _ _ _).mono ?_; rintro e w' ⟨rfl, rfl⟩) | (go_at_call 39; refine (nameOk_any _ _ (by with_reducible assumption)).mono ?_; rintro e w' ⟨rfl, rfl⟩))
      go_ret
      exact ⟨ret_bool HF.out.symm, (HO _).out⟩
    | true =>
    cases p1 : (x.ms == 0) with
    | false =>
      have HF : Hid (svB now x = false) := by unfold Hid; rw [HP2.out, p0, p1]; rfl
      go_wp2_with (first | (go_at_call 37; refine (in_any _ _ _ _).mono ?_; rintro e w' ⟨rfl, rfl⟩) | (go_at_call 39; refine (nameOk_any _ _ (by with_reducible assumption)).mono ?_; rintro e w' ⟨rfl, rfl⟩))
      go_ret
      exact ⟨ret_bool HF.out.symm, (HO _).out⟩
    | true =>
    cases p2 : (x.ld == 0) with
    | false =>
      have HF : Hid (svB now x = false) := by unfold Hid; rw [HP2.out, p0, p1, p2]; rfl
      go_wp2_with (first | (go_at_call 37; refine (in_any _ _ _ _).mono ?_; rintro e w' ⟨rfl, rfl⟩) | (go_at_call 39; refine (nameOk_any _ _ (by with_reducible assumption)).mono ?_; rintro e w' ⟨rfl, rfl⟩))
      go_ret
      exact ⟨ret_bool HF.out.symm, (HO _).out⟩
    | true =>
    have HF : Hid (svB now x = (x.cl == 0)) := by unfold Hid; rw [HP2.out, p0, p1, p2]; rfl
    go_wp2_with (first | (go_at_call 37; refine (in_any _ _ _ _).mono ?_; rintro e w' ⟨rfl, rfl⟩) | (go_at_call 39; refine (nameOk_any _ _ (by with_reducible assumption)).mono ?_; rintro e w' ⟨rfl, rfl⟩))
    go_ret
    exact ⟨ret_bool HF.out.symm, (HO _).out⟩
  | false =>
    have HP2 : Hid (svB now x = (inB 0 1000000 x.pr && (inB 0 1000000 x.ld && (inB 0 10 x.ls && (inB x.ls 10 x.ms && inB 0 3 x.cl))))) := by unfold Hid; rw [HE.out, HP.out, h8]; rfl
    cases p0 : inB 0 1000000 x.pr with
    | false =>
      have HF : Hid (svB now x = false) := by unfold Hid; rw [HP2.out, p0]; rfl
      go_wp2_with (first | (go_at_call 37; refine (in_any _ _ _ _).mono ?_; rintro e w' ⟨rfl, rfl⟩) | (go_at_call 39; refine (nameOk_any _ _ (by with_reducible assumption)).mono ?_; rintro e w' ⟨rfl, rfl⟩))
      go_ret
      exact ⟨ret_bool HF.out.symm, (HO _).out⟩
    | true =>
    cases p1 : inB 0 1000000 x.ld with
    | false =>
      have HF : Hid (svB now x = false) := by unfold Hid; rw [HP2.out, p0, p1]; rfl
      go_wp2_with (first | (go_at_call 37; refine (in_any _ _ _ _).mono ?_; rintro e w' ⟨rfl, rfl⟩) | (go_at_call 39; refine (nameOk_any _ _ (by with_reducible assumption)).mono ?_; rintro e w' ⟨rfl, rfl⟩))
      go_ret
      exact ⟨ret_bool HF.out.symm, (HO _).out⟩
    | true =>
    cases p2 : inB 0 10 x.ls with
    | false =>
      have HF : Hid (svB now x = false) := by unfold Hid; rw [HP2.out, p0, p1, p2]; rfl
      go_wp2_with (first | (go_at_call 37; refine (in_any _ _ _ _).mono ?_; rintro e w' ⟨rfl, rfl⟩) | (go_at_call 39; refine (nameOk_any _ _ (by with_reducible assumption)).mono ?_; rintro e w' ⟨rfl, rfl⟩))
      go_ret
      exact ⟨ret_bool HF.out.symm, (HO _).out⟩
    | true =>
    cases p3 : inB x.ls 10 x.ms with
    | false =>
      have HF : Hid (svB now x = false) := by unfold Hid; rw [HP2.out, p0, p1, p2, p3]; rfl
      go_wp2_with (first | (go_at_call 37; refine (in_any _ _ _ _).mono ?_; rintro e w' ⟨rfl, rfl⟩) | (go_at_call 39; refine (nameOk_any _ _ (by with_reducible assumption)).mono ?_; rintro e w' ⟨rfl, rfl⟩))
      go_ret
      exact ⟨ret_bool HF.out.symm, (HO _).out⟩
    | true =>
    have HF : Hid (svB now x = inB 0 3 x.cl) := by unfold Hid; rw [HP2.out, p0, p1, p2, p3]; rfl
    go_wp2_with (first | (go_at_call 37; refine (in_any _ _ _ _).mono ?_; rintro e w' ⟨rfl, rfl⟩) | (go_at_call 39; refine (nameOk_any _ _ (by with_reducible assumption)).mono ?_; rintro e w' ⟨rfl, rfl⟩))
    go_ret
    exact ⟨ret_bool HF.out.symm, (HO _).out⟩
end Go.Proofs.YtpdlcccnlciecaaGreat
