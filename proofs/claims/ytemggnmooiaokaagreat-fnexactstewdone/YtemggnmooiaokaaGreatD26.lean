import Derived.Test.YtemggnmooiaokaaGreatD25
namespace Go.Proofs.YtemggnmooiaokaaGreat
open Go.RowKit Go.Deep

theorem svB_per {now : Int} {x : Sv} (h : svB now x = true) : 0 ≤ x.pr ∧ x.pr ≤ 1000000 ∧ 0 ≤ x.ld ∧ x.ld ≤ 1000000 ∧ x.ls ≤ x.ms ∧ 0 ≤ x.ls ∧ x.ms ≤ 10 ∧ 0 ≤ x.cl ∧ x.cl ≤ 3 := by
  unfold svB at h
  simp only [Bool.and_eq_true] at h
  have := h.2.2.2.2.2.2.2.2
  unfold perB at this
  split at this
  · rename_i h0
    have h0 := beq_iff_eq.1 h0
    simp only [Bool.and_eq_true, beq_iff_eq] at this
    omega
  · unfold inB at this
    simp only [Bool.and_eq_true, decide_eq_true_iff] at this
    omega
theorem fol_pos {x : Sv} {d : Int} (hp : ¬ x.pr = 0) (hd : d = desF x) : folB x = ((x.wa == d) && (x.cl == 0)) := by
  have h : (x.pr == 0) = false := by simpa using hp
  unfold folB
  rw [h, hd]
  rfl

set_option maxRecDepth 100000 in
set_option maxHeartbeats 16000000 in
theorem specDone_any (lo : Nat) (sv cv bv : Value) (B : Sb) (w : World) (h : SbAt lo w sv cv bv B) :
    Calls Tryz.prog 6 #[.agg #[.int .i64 B.now, sv, cv, bv]] w fun e w' => e = .returned (.bool (doneB B)) ∧ Below w.heap.size w w' := by
  have HK := hide h
  obtain ⟨a0, k0, rfl⟩ := h.svs.form
  obtain ⟨a1, k1, rfl⟩ := h.cps.form
  obtain ⟨a2, k2, rfl⟩ := h.bes.form
  clear h
  go_enter Tryz.func6, Tryz.ntmps6
  go_wp2_with fail
  generalize hWa : w.alloc _ = Wa
  have HB : Hid (Below w.heap.size w Wa) := by unfold Hid; rw [← hWa]; exact one_al w _
  have F1 : Hid (Box Wa w.heap.size #[.int .i64 B.now, .slice a0 B.ss.length k0, .slice a1 B.cs.length k1, .slice a2 B.bs.length k2]) := by unfold Hid; rw [← hWa]; exact Box.new _ _ _ _ rfl
  clear hWa
  refine (specValid_any lo _ _ _ B _ (HK.out.below HB.out)).mono ?_
  rintro e w1 ⟨rfl, hb1⟩
  replace HB := hide (bt HB.out hb1)
  replace F1 := hide (F1.out.on hb1)
  clear hb1
  cases hv : validB B with
  | false =>
    have HE : Hid (doneB B = false) := by unfold Hid doneB; rw [hv]; rfl
    go_wp2
    go_ret
    exact ⟨ret_bool HE.out.symm, HB.out⟩
  | true =>
    have HV := hide hv
    clear hv
    have pb := F1.out.cell
    go_wp2_with fail
    clear pb
    refine (specRank_any lo _ _ _ B _ (HK.out.below HB.out) HV.out).mono ?_
    rintro e w2 ⟨rfl, hb2, hr2⟩
    have hw1 : w.heap.size < w1.heap.size := F1.out.lt
    replace HB := hide (bt HB.out hb2)
    replace F1 := hide (F1.out.on hb2)
    have FR := hide hr2
    clear hb2 hr2
    have HZ : Hid (zero5 (rankI B B.ss) = ((sumL sh0 B.ss == 0) && ((sumL (sh1 B) B.ss == 0) && ((sumL (sh2 B) B.ss == 0) && ((sumL (sq3 B) B.ss == 0) && (sumL (sq4 B) B.ss == 0)))))) := by
      unfold Hid
      rw [rank_same]
      simp [zero5, rankS]
    generalize sumL sh0 B.ss = r0 at *
    generalize sumL (sh1 B) B.ss = r1 at *
    generalize sumL (sh2 B) B.ss = r2 at *
    generalize sumL (sq3 B) B.ss = r3 at *
    generalize sumL (sq4 B) B.ss = r4 at *
    go_wp2
    go_loopw [4] (fun i wr => ∃ k : Nat, i = .int .i64 k ∧ k ≤ 5 ∧ wr = w2 ∧ (∀ (j : Nat) (hj : j < 5), j < k → ([r0, r1, r2, r3, r4][j]'hj) = 0)) (fun i _ => 5 - (intOf i).toNat)
    case atStart => exact ⟨0, rfl, Nat.zero_le _, rfl, fun j _ hjk => by omega⟩
    case round =>
      obtain ⟨k, rfl, hk, rfl, hall⟩ := hrel
      have HALL := hide hall
      clear hall
      by_cases hlt : k < 5
      · have hcell : wr.cell? ⟨w1.heap.size + 1, k, none⟩ = some (.int .i64 ([r0, r1, r2, r3, r4][k]'hlt)) := by
          rw [FR.out.cell k]
          match k, hlt with
          | 0, _ => rfl
          | 1, _ => rfl
          | 2, _ => rfl
          | 3, _ => rfl
          | 4, _ => rfl
        have HN : Hid (¬ ([r0, r1, r2, r3, r4][k]'hlt) = 0 → doneB B = false) := fun hne => by
          unfold doneB
          rw [HZ.out]
          have : ((r0 == 0) && ((r1 == 0) && ((r2 == 0) && ((r3 == 0) && (r4 == 0))))) = false := by
            match k, hlt with
            | 0, _ => have : (r0 == 0) = false := by simpa using hne
                      simp [this]
            | 1, _ => have : (r1 == 0) = false := by simpa using hne
                      simp [this]
            | 2, _ => have : (r2 == 0) = false := by simpa using hne
                      simp [this]
            | 3, _ => have : (r3 == 0) = false := by simpa using hne
                      simp [this]
            | 4, _ => have : (r4 == 0) = false := by simpa using hne
                      simp [this]
          rw [this]
          simp
        obtain ⟨rk, hrk⟩ : ∃ r, r = ([r0, r1, r2, r3, r4][k]'hlt) := ⟨_, rfl⟩
        rw [← hrk] at hcell HN
        have HRK := hide hrk
        clear hrk
        have i0 : (0 : Int) ≤ (k : Int) := by omega
        have i1' : (k : Int) < (5 : Int) := by omega
        by_cases hz : rk = 0
        · have hzb : (rk != 0) = false := by simp [hz]
          have HZK := hide hz
          clear hz
          go_wp2
          go_roundw
          case rel => exact ⟨k + 1, by go_num, by omega, trivial, fun j hj hjk => by
                        by_cases e : j = k
                        · subst e; rw [← HRK.out]; exact HZK.out
                        · exact HALL.out j hj (by omega)⟩
          case measure => simp [intOf]; omega
        · have hzb : (rk != 0) = true := by simp [hz]
          have HE : Hid (doneB B = false) := HN.out hz
          clear hz
          go_wp2
          go_ret
          exact ⟨ret_bool HE.out.symm, HB.out⟩
      · have hk5 : k = 5 := by omega
        subst hk5
        have HD : Hid (doneB B = B.ss.all folB) := by
          unfold Hid doneB
          rw [HZ.out, HV.out]
          have e0 := HALL.out 0 (by omega) (by omega)
          have e1 := HALL.out 1 (by omega) (by omega)
          have e2 := HALL.out 2 (by omega) (by omega)
          have e3 := HALL.out 3 (by omega) (by omega)
          have e4 := HALL.out 4 (by omega) (by omega)
          simp only [List.getElem_cons_zero, List.getElem_cons_succ] at e0 e1 e2 e3 e4
          rw [e0, e1, e2, e3, e4]
          simp
        go_wp2
        obtain ⟨wo, hwo⟩ : ∃ W, W = wr := ⟨_, rfl⟩
        subst hwo
        go_loopw [5] (fun i wr => ∃ k : Nat, i = .int .i64 k ∧ k ≤ B.ss.length ∧ Below w.heap.size w wr ∧ Box wr w.heap.size #[.int .i64 B.now, .slice a0 B.ss.length k0, .slice a1 B.cs.length k1, .slice a2 B.bs.length k2] ∧ (∀ (j : Nat) (hj : j < B.ss.length), j < k → folB B.ss[j] = true)) (fun i _ => B.ss.length - (intOf i).toNat)
        case atStart => exact ⟨0, rfl, Nat.zero_le _, HB.out, F1.out, fun j _ hjk => by omega⟩
        case round =>
          obtain ⟨k, rfl, hk, hb, hf, hall⟩ := hrel
          replace HB := hide hb
          replace F1 := hide hf
          have HALs := hide hall
          clear hb hf hall HALL HZ FR
          have q1 := F1.out.cell 1
          simp at q1
          by_cases hlt : k < B.ss.length
          · have hmem : B.ss[k] ∈ B.ss := List.getElem_mem hlt
            have hper := svB_per ((valid_s8 HV.out).2.2 _ hmem)
            obtain ⟨sb, so, rfl, hsb, -, hcc⟩ := HK.out.svs.full' (by omega)
            obtain ⟨c0, c1, c2, c3, c4, c5, c6, c7, c8, c9, c10, c11, c12⟩ := (hcc k hlt).2.below HB.out hsb
            clear hcc hmem
            have HAt : Hid (folB B.ss[k] = false → B.ss.all folB = false) := fun h0 => by
              rw [List.all_eq_false]
              exact ⟨_, List.getElem_mem hlt, by simp [h0]⟩
            have HAu : Hid (folB B.ss[k] = true → ∀ (j : Nat) (hj : j < B.ss.length), j < k + 1 → folB B.ss[j] = true) := fun h0 j hj hjk => by
              by_cases e : j = k
              · subst e; exact h0
              · exact HALs.out j hj (by omega)
            obtain ⟨x, hx⟩ : ∃ x, x = B.ss[k] := ⟨_, rfl⟩
            rw [← hx] at c0 c1 c2 c3 c4 c5 c6 c7 c8 c9 c10 c11 c12 hper HAt HAu
            clear hx
            have h8 := (valid_s8 HV.out).1
            have i0 : (0 : Int) ≤ (k : Int) := by omega
            have i1' : (k : Int) < (B.ss.length : Int) := by omega
            go_wp2_with fail
            clear c0 c1 c2 c3 c4 c5 c6 c7 c8 c9 c10 c11 c12 q1
            generalize hWb : wr.alloc _ = Wb
            have hbb : Below wr.heap.size wr Wb := by rw [← hWb]; exact one_al _ _
            have HBb := hide (bt HB.out hbb)
            have Fb := hide (F1.out.on hbb)
            have FSb : Hid (Box Wb wr.heap.size #[.string x.nm, .int .i64 x.ve, .bool x.gn, .int .i64 x.im, .int .i64 x.wa, .int .i64 x.dn, .int .i64 x.ov, .int .i64 x.nx, .int .i64 x.pr, .int .i64 x.ls, .int .i64 x.ms, .int .i64 x.ld, .int .i64 x.cl]) := by unfold Hid; rw [← hWb]; exact Box.new _ _ _ _ rfl
            clear hbb hWb HB F1
            go_cut [49] from 35 to 49 (fun v wc => v = .bool (!folB x) ∧ Below Wb.heap.size Wb wc)
            case first =>
              have xn : Nonempty (In (Up Wb)) := ⟨⟨Wb, Below.refl _ _⟩⟩
              have xs := fun (Y : In (Up Wb)) => in_self Y
              have p0 : ∀ Y : In (Up Wb), _ := fun Y => Up.cell Y (FSb.out.cell 0)
              have p1 : ∀ Y : In (Up Wb), _ := fun Y => Up.cell Y (FSb.out.cell 1)
              have p2 : ∀ Y : In (Up Wb), _ := fun Y => Up.cell Y (FSb.out.cell 2)
              have p3 : ∀ Y : In (Up Wb), _ := fun Y => Up.cell Y (FSb.out.cell 3)
              have p4 : ∀ Y : In (Up Wb), _ := fun Y => Up.cell Y (FSb.out.cell 4)
              have p5 : ∀ Y : In (Up Wb), _ := fun Y => Up.cell Y (FSb.out.cell 5)
              have p6 : ∀ Y : In (Up Wb), _ := fun Y => Up.cell Y (FSb.out.cell 6)
              have p7 : ∀ Y : In (Up Wb), _ := fun Y => Up.cell Y (FSb.out.cell 7)
              have p8 : ∀ Y : In (Up Wb), _ := fun Y => Up.cell Y (FSb.out.cell 8)
              have p9 : ∀ Y : In (Up Wb), _ := fun Y => Up.cell Y (FSb.out.cell 9)
              have p10 : ∀ Y : In (Up Wb), _ := fun Y => Up.cell Y (FSb.out.cell 10)
              have p11 : ∀ Y : In (Up Wb), _ := fun Y => Up.cell Y (FSb.out.cell 11)
              have p12 : ∀ Y : In (Up Wb), _ := fun Y => Up.cell Y (FSb.out.cell 12)
              simp at p0 p1 p2 p3 p4 p5 p6 p7 p8 p9 p10 p11 p12
              by_cases hp : x.pr = 0
              · have hpb : ¬ (0 < x.pr) := by omega
                have HE : Hid (folB x = true) := by unfold Hid folB; rw [hp]; rfl
                clear hp
                refine wp_region_class (Up Wb) (by kernel_rfl) (by kernel_rfl) ((Below.refl _ _).drew) ?_
                repeat (go_big_quiet_step (fail))
                refine wpQuiet_nil ?_
                intro wn hw
                obtain ⟨Y, hY⟩ := hw
                have HWN : Below Wb.heap.size Wb wn := by rw [hY]; exact Y.h
                clear hY Y p0 p1 p2 p3 p4 p5 p6 p7 p8 p9 p10 p11 p12 xs xn
                go_wp2
                go_meet
                exact ⟨by rw [HE.out]; rfl, HWN⟩
              · have hpb : 0 < x.pr := by omega
                obtain ⟨d, hd⟩ : ∃ d, d = desF x := ⟨_, rfl⟩
                have HE : Hid (folB x = ((x.wa == d) && (x.cl == 0))) := fol_pos hp hd
                have HDes : Hid (∀ W, Calls Tryz.prog 21 #[.agg #[.string x.nm, .int .i64 x.ve, .bool x.gn, .int .i64 x.im, .int .i64 x.wa, .int .i64 x.dn, .int .i64 x.ov, .int .i64 x.nx, .int .i64 x.pr, .int .i64 x.ls, .int .i64 x.ms, .int .i64 x.ld, .int .i64 x.cl]] W fun e w' => e = .returned (.int .i64 d) ∧ Below W.heap.size W w') := fun W => (l16Desired_any x W (by omega) (by omega) (by omega) (by omega)).mono fun _ _ h => ⟨h.1.trans (by rw [hd]), by obtain ⟨o, rfl⟩ := h.2; exact one_al _ _⟩
                clear hp hd
                cases hwd : (x.wa != d) with
                | true =>
                  refine wp_region_class (Up Wb) (by kernel_rfl) (by kernel_rfl) ((Below.refl _ _).drew) ?_
                  repeat (go_big_quiet_step (first | (go_at_call 21; rename_i Y; exact (HDes.out _).mono fun _ _ h => ⟨h.1, Up.next Y h.2⟩)))
                  refine wpQuiet_nil ?_
                  intro wn hw
                  obtain ⟨Y, hY⟩ := hw
                  have HWN : Below Wb.heap.size Wb wn := by rw [hY]; exact Y.h
                  clear hY Y p0 p1 p2 p3 p4 p5 p6 p7 p8 p9 p10 p11 p12 xs xn
                  go_wp2
                  go_meet
                  have hwe : (x.wa == d) = false := by simpa [bne] using hwd
                  exact ⟨by rw [HE.out, hwe]; rfl, HWN⟩
                | false =>
                  refine wp_region_class (Up Wb) (by kernel_rfl) (by kernel_rfl) ((Below.refl _ _).drew) ?_
                  repeat (go_big_quiet_step (first | (go_at_call 21; rename_i Y; exact (HDes.out _).mono fun _ _ h => ⟨h.1, Up.next Y h.2⟩)))
                  refine wpQuiet_nil ?_
                  intro wn hw
                  obtain ⟨Y, hY⟩ := hw
                  have HWN : Below Wb.heap.size Wb wn := by rw [hY]; exact Y.h
                  clear hY Y p0 p1 p2 p3 p4 p5 p6 p7 p8 p9 p10 p11 p12 xs xn
                  go_wp2
                  go_meet
                  have hwe : (x.wa == d) = true := by simpa [bne] using hwd
                  exact ⟨by rw [HE.out, hwe]; rfl, HWN⟩
            case rest =>
            obtain ⟨rfl, hbc⟩ := hcut
            have HBc := hide (bt HBb.out hbc)
            have Fc := hide (Fb.out.on hbc)
            clear hbc HBb Fb FSb
            cases hfo : folB x with
            | true =>
              have HAx := hide (HAu.out hfo)
              go_wp2
              go_roundw
              case rel => exact ⟨k + 1, by go_num, by omega, HBc.out, Fc.out, HAx.out⟩
              case measure => simp [intOf]; omega
            | false =>
              have HE : Hid (doneB B = false) := HD.out.trans (HAt.out hfo)
              go_wp2
              go_ret
              exact ⟨ret_bool HE.out.symm, HBc.out⟩
          · have HE : Hid (doneB B = true) := by
              unfold Hid
              rw [HD.out, List.all_eq_true]
              intro y hy
              obtain ⟨j, hj, rfl⟩ := List.getElem_of_mem hy
              exact HALs.out j hj (by omega)
            go_wp2
            go_ret
            exact ⟨ret_bool HE.out.symm, HB.out⟩
end Go.Proofs.YtemggnmooiaokaaGreat
