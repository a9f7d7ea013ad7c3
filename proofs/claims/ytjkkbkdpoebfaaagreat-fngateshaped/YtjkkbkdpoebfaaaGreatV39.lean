import Derived.Test.YtjkkbkdpoebfaaaGreatV33
import Derived.Deep.RegionWith
namespace Go.Proofs.YtjkkbkdpoebfaaaGreat
open Go.RowKit Go.Deep

set_option maxRecDepth 100000 in
set_option maxHeartbeats 10000000 in
theorem fieldsOk_any (r lo lo' : Nat) (lv fv : Value) (Ss : List Sh) (Fs : List Fd) (w : World) (hr : w.heap[r]? = some (.map makerEntries 4)) (hl : ShsAt lo w lv Ss) (hv : FdsAt lo' w fv Fs) :
    Calls Tryz.prog 41 #[.map (some r), lv, fv] w fun e w' => e = .returned (.bool (fieldsB Ss Fs)) ∧ Below w.heap.size w w' := by
  have HL := hide hl
  have HR := hide hr
  have hrl : r < w.heap.size := (Array.getElem?_eq_some_iff.1 hr).1
  obtain ⟨la, lcap, rfl⟩ := hl.form
  clear hl hr
  by_cases hL : Fs = []
  · subst hL
    obtain ⟨a, cap, rfl⟩ := nil_form hv
    clear hv
    go_enter Tryz.func41, Tryz.ntmps41
    go_wp2
    go_loop [16] (fun i => i = .int .i64 0) (fun _ => 0)
    case atStart => rfl
    case round =>
      subst hrel
      go_wp2
      go_ret
      exact ⟨rfl, Below.refl _ _⟩
  have HFV := hide hv
  obtain ⟨b, off, cap, rfl, hm, hbw, hcp, hc⟩ := hv.full hL
  have hlo : Hid (lo' ≤ b) := by
    rcases hv with ⟨_, _, _, h⟩ | ⟨b', off', cap', h1, _, _, _, h5, _⟩
    · exact absurd h hL
    · simp only [Value.slice.injEq, Option.some.injEq, Addr.mk.injEq] at h1
      unfold Hid; omega
  clear hv
  have HM := hide hm
  unfold maxLen at hm
  by_cases h6 : (Fs.length : Int) ≤ 6
  · go_enter Tryz.func41, Tryz.ntmps41
    go_wp2
    go_loopw [16] (fun i wr => ∃ k : Nat, i = .int .i64 k ∧ k ≤ Fs.length ∧ Below w.heap.size w wr ∧ ∀ i, i < k → fieldAt Ss Fs i = true) (fun i _ => Fs.length - (intOf i).toNat)
    case atStart => exact ⟨0, rfl, by omega, Below.refl _ _, fun i h => by omega⟩
    case round =>
      obtain ⟨k, rfl, hk, hb, hall⟩ := hrel
      have HA := hide hall
      have HB := hide hb
      clear hall hb
      by_cases hlt : k < Fs.length
      · obtain ⟨hzz, wv, hcell, hws⟩ := hc k hlt
        have HWS0 : Hid (StrsAt w wv Fs[k].words) := hws.at
        obtain ⟨wa, wcap, rfl⟩ := hws.at.form_len
        clear hws
        have hbo : b < wr.heap.size := Nat.lt_of_lt_of_le hbw HB.out.size
        have HTK : Hid (FdsAt lo' wr (.slice (some ⟨b, off, none⟩) k cap) (Fs.take k)) := FdsAt.take hk HM.out hbo hlo.out hcp (fun i hi => by
          obtain ⟨q1, wv', q2, q3⟩ := hc i hi
          exact ⟨q1, wv', q2.below HB.out hbw, q3.below HB.out⟩)
        obtain ⟨c0, c1, c2, c3, c4, c5, c6, c7, c8, c9, c10⟩ := hcell.below HB.out hbw
        clear hcell
        have hW : ∀ o, Hid (Below wr.heap.size wr (wr.alloc o)) := fun o => (Below.refl _ _).alloc (Nat.le_refl _) _
        cases hnm : nameB Fs[k].nm with
        | false =>
          have HN : Hid (fieldsB Ss Fs = false) := fields_no hlt (by rw [fieldAt_of hlt, hnm]; rfl)
          go_wp2
          go_quiet ((go_at_call 40; exact Calls.quiet_of_same (isName_any _ _ hzz.s0)))
          go_wp2
          go_ret
          exact ⟨ret_bool HN.out.symm, below_drewN (HB.out.alloc HB.out.size _) _⟩
        | true =>
          go_wp2
          go_region_with (first
            | (go_at_call 40; refine (isName_any _ _ hzz.s0).mono ?_; rintro e w' ⟨rfl, rfl⟩)
            | (go_at_call 70; refine (hasField_any lo' _ (Fs.take k) _ _ (HTK.out.below (Below.drew (hW _).out))).mono ?_; rintro e w1 ⟨rfl, hb1⟩; have HB1 : Hid (Below w.heap.size w w1) := HB.out.trans ((((hW _).out.drew).mono HB.out.size).trans (hb1.mono (by have := HB.out.size; simp; omega))); have HC1 : Hid (Below (wr.heap.size + 1) (wr.alloc (.cells #[.string Fs[k].nm, .int .i64 Fs[k].kd, .int .i64 Fs[k].le, .int .i64 Fs[k].mo, .slice wa Fs[k].words.length wcap, .string Fs[k].to, .int .i64 Fs[k].ro, .bool Fs[k].mu, .bool Fs[k].fx, .string Fs[k].df, .string Fs[k].we] 56)) w1) := ((Below.refl _ _).drew).trans (hb1.mono (by simp)); clear hb1))
          all_goals
            have HR1 : Hid (w1.heap[r]? = some (.map makerEntries 4)) := by unfold Hid; rw [HB1.out.block r hrl]; exact HR.out
            have hbx := fun i => box_cell wr w1 #[.string Fs[k].nm, .int .i64 Fs[k].kd, .int .i64 Fs[k].le, .int .i64 Fs[k].mo, .slice wa Fs[k].words.length wcap, .string Fs[k].to, .int .i64 Fs[k].ro, .bool Fs[k].mu, .bool Fs[k].fx, .string Fs[k].df, .string Fs[k].we] 56 HC1.out i
            cases hdp : dupB (Fs.take k) Fs[k].nm with
            | true =>
              have HN : Hid (fieldsB Ss Fs = false) := fields_no hlt (by rw [fieldAt_of hlt, hdp]; simp)
              go_wp2
              go_ret
              exact ⟨ret_bool HN.out.symm, HB1.out⟩
            | false =>
              by_cases hk1 : Fs[k].kd = 1
              · have HRE : Hid (restB Ss Fs[k] = (bare1 Fs[k].words.length Fs[k].to Fs[k].ro && sound1 Fs[k].le Fs[k].mo Fs[k].we && (Fs[k].df.toList.isEmpty || fitsB 1 Fs[k].le Fs[k].mo Fs[k].words Fs[k].df))) := by unfold Hid restB; rw [if_pos hk1]
                have hlk : (Instr.lookup 65 (.map (some r)) (.int .i64 Fs[k].kd) true).run Tryz.prog w1 = .ok (.tuple #[.func (.func 65) #[] #[], .bool true]) w1 := by rw [hk1]; exact look_of w1 r 1 _ HR1.out find1
                clear hk1
                go_wp2
                go_region_with (first
                  | (go_at_call 65; refine (new49 _ _ _ _ _ _ _ _ _ _ _ _ _ _).mono ?_; rintro e w2 ⟨rfl, hb2⟩; have HC2 : Hid (Below (wr.heap.size + 1) (wr.alloc (.cells #[.string Fs[k].nm, .int .i64 Fs[k].kd, .int .i64 Fs[k].le, .int .i64 Fs[k].mo, .slice wa Fs[k].words.length wcap, .string Fs[k].to, .int .i64 Fs[k].ro, .bool Fs[k].mu, .bool Fs[k].fx, .string Fs[k].df, .string Fs[k].we] 56)) w2) := (HC1.out.drew).trans (hb2.mono (by have := HC1.out.size; simp at this; exact this)); have hbx2 := fun i => box_cell wr w2 #[.string Fs[k].nm, .int .i64 Fs[k].kd, .int .i64 Fs[k].le, .int .i64 Fs[k].mo, .slice wa Fs[k].words.length wcap, .string Fs[k].to, .int .i64 Fs[k].ro, .bool Fs[k].mu, .bool Fs[k].fx, .string Fs[k].df, .string Fs[k].we] 56 HC2.out i; have HB2 : Hid (Below w.heap.size w w2) := (HB1.out.drew).trans (hb2.mono HB1.out.size); clear hb2)
                  | (go_at_call 71; refine (implField1 _ _ _ _ _ _ _ _ _ _ Fs[k].words _ _ _ lo _ Ss (HL.out.below HB2.out) (HWS0.out.below HB2.out) hzz.s9 hzz.s10).mono ?_; rintro e w3 ⟨rfl, hb3⟩; rw [← HRE.out]; have HB3 : Hid (Below w.heap.size w w3) := HB2.out.trans (hb3.mono HB2.out.size); clear hb3))
                all_goals
                  cases hre : restB Ss Fs[k] with
                  | false =>
                    have HN : Hid (fieldsB Ss Fs = false) := fields_no hlt (by rw [fieldAt_of hlt, hre]; simp)
                    go_wp2
                    go_ret
                    exact ⟨ret_bool HN.out.symm, HB3.out⟩
                  | true =>
                    have HFA : Hid (fieldAt Ss Fs k = true) := by unfold Hid; rw [fieldAt_of hlt, hnm, hre, hdp]; rfl
                    go_wp2
                    go_roundw
                    case rel => exact ⟨k + 1, by go_num, by omega, HB3.out, fun i hi => by
                                  by_cases e : i = k
                                  · rw [e]; exact HFA.out
                                  · exact HA.out i (by omega)⟩
                    case measure => simp [intOf]; omega
              by_cases hk2 : Fs[k].kd = 2
              · have HRE : Hid (restB Ss Fs[k] = (bare2 Fs[k].le Fs[k].mo Fs[k].to Fs[k].ro Fs[k].we && sound2 Fs[k].words.length Fs[k].words && (Fs[k].df.toList.isEmpty || fitsB 2 Fs[k].le Fs[k].mo Fs[k].words Fs[k].df))) := by unfold Hid restB; rw [if_neg hk1, if_pos hk2]
                have hlk : (Instr.lookup 65 (.map (some r)) (.int .i64 Fs[k].kd) true).run Tryz.prog w1 = .ok (.tuple #[.func (.func 66) #[] #[], .bool true]) w1 := by rw [hk2]; exact look_of w1 r 2 _ HR1.out find2
                clear hk1 hk2
                go_wp2
                go_region_with (first
                  | (go_at_call 66; refine (new50 _ _ _ _ _ _ _ _ _ _ _ _ _ _).mono ?_; rintro e w2 ⟨rfl, hb2⟩; have HC2 : Hid (Below (wr.heap.size + 1) (wr.alloc (.cells #[.string Fs[k].nm, .int .i64 Fs[k].kd, .int .i64 Fs[k].le, .int .i64 Fs[k].mo, .slice wa Fs[k].words.length wcap, .string Fs[k].to, .int .i64 Fs[k].ro, .bool Fs[k].mu, .bool Fs[k].fx, .string Fs[k].df, .string Fs[k].we] 56)) w2) := (HC1.out.drew).trans (hb2.mono (by have := HC1.out.size; simp at this; exact this)); have hbx2 := fun i => box_cell wr w2 #[.string Fs[k].nm, .int .i64 Fs[k].kd, .int .i64 Fs[k].le, .int .i64 Fs[k].mo, .slice wa Fs[k].words.length wcap, .string Fs[k].to, .int .i64 Fs[k].ro, .bool Fs[k].mu, .bool Fs[k].fx, .string Fs[k].df, .string Fs[k].we] 56 HC2.out i; have HB2 : Hid (Below w.heap.size w w2) := (HB1.out.drew).trans (hb2.mono HB1.out.size); clear hb2)
                  | (go_at_call 71; refine (implField2 _ _ _ _ _ _ _ _ _ _ Fs[k].words _ _ _ lo _ Ss (HL.out.below HB2.out) (HWS0.out.below HB2.out) hzz.s9 hzz.s10).mono ?_; rintro e w3 ⟨rfl, hb3⟩; rw [← HRE.out]; have HB3 : Hid (Below w.heap.size w w3) := HB2.out.trans (hb3.mono HB2.out.size); clear hb3))
                all_goals
                  cases hre : restB Ss Fs[k] with
                  | false =>
                    have HN : Hid (fieldsB Ss Fs = false) := fields_no hlt (by rw [fieldAt_of hlt, hre]; simp)
                    go_wp2
                    go_ret
                    exact ⟨ret_bool HN.out.symm, HB3.out⟩
                  | true =>
                    have HFA : Hid (fieldAt Ss Fs k = true) := by unfold Hid; rw [fieldAt_of hlt, hnm, hre, hdp]; rfl
                    go_wp2
                    go_roundw
                    case rel => exact ⟨k + 1, by go_num, by omega, HB3.out, fun i hi => by
                                  by_cases e : i = k
                                  · rw [e]; exact HFA.out
                                  · exact HA.out i (by omega)⟩
                    case measure => simp [intOf]; omega
              by_cases hk3 : Fs[k].kd = 3
              · have HRE : Hid (restB Ss Fs[k] = (bare3 Fs[k].words.length Fs[k].to Fs[k].ro Fs[k].we && sound3 Fs[k].le Fs[k].mo && (Fs[k].df.toList.isEmpty || fitsB 3 Fs[k].le Fs[k].mo Fs[k].words Fs[k].df))) := by unfold Hid restB; rw [if_neg hk1, if_neg hk2, if_pos hk3]
                have hlk : (Instr.lookup 65 (.map (some r)) (.int .i64 Fs[k].kd) true).run Tryz.prog w1 = .ok (.tuple #[.func (.func 67) #[] #[], .bool true]) w1 := by rw [hk3]; exact look_of w1 r 3 _ HR1.out find3
                clear hk1 hk2 hk3
                go_wp2
                go_region_with (first
                  | (go_at_call 67; refine (new51 _ _ _ _ _ _ _ _ _ _ _ _ _ _).mono ?_; rintro e w2 ⟨rfl, hb2⟩; have HC2 : Hid (Below (wr.heap.size + 1) (wr.alloc (.cells #[.string Fs[k].nm, .int .i64 Fs[k].kd, .int .i64 Fs[k].le, .int .i64 Fs[k].mo, .slice wa Fs[k].words.length wcap, .string Fs[k].to, .int .i64 Fs[k].ro, .bool Fs[k].mu, .bool Fs[k].fx, .string Fs[k].df, .string Fs[k].we] 56)) w2) := (HC1.out.drew).trans (hb2.mono (by have := HC1.out.size; simp at this; exact this)); have hbx2 := fun i => box_cell wr w2 #[.string Fs[k].nm, .int .i64 Fs[k].kd, .int .i64 Fs[k].le, .int .i64 Fs[k].mo, .slice wa Fs[k].words.length wcap, .string Fs[k].to, .int .i64 Fs[k].ro, .bool Fs[k].mu, .bool Fs[k].fx, .string Fs[k].df, .string Fs[k].we] 56 HC2.out i; have HB2 : Hid (Below w.heap.size w w2) := (HB1.out.drew).trans (hb2.mono HB1.out.size); clear hb2)
                  | (go_at_call 71; refine (implField3 _ _ _ _ _ _ _ _ _ _ Fs[k].words _ _ _ lo _ Ss (HL.out.below HB2.out) (HWS0.out.below HB2.out) hzz.s9 hzz.s10).mono ?_; rintro e w3 ⟨rfl, hb3⟩; rw [← HRE.out]; have HB3 : Hid (Below w.heap.size w w3) := HB2.out.trans (hb3.mono HB2.out.size); clear hb3))
                all_goals
                  cases hre : restB Ss Fs[k] with
                  | false =>
                    have HN : Hid (fieldsB Ss Fs = false) := fields_no hlt (by rw [fieldAt_of hlt, hre]; simp)
                    go_wp2
                    go_ret
                    exact ⟨ret_bool HN.out.symm, HB3.out⟩
                  | true =>
                    have HFA : Hid (fieldAt Ss Fs k = true) := by unfold Hid; rw [fieldAt_of hlt, hnm, hre, hdp]; rfl
                    go_wp2
                    go_roundw
                    case rel => exact ⟨k + 1, by go_num, by omega, HB3.out, fun i hi => by
                                  by_cases e : i = k
                                  · rw [e]; exact HFA.out
                                  · exact HA.out i (by omega)⟩
                    case measure => simp [intOf]; omega
              by_cases hk4 : Fs[k].kd = 4
              · have HRE : Hid (restB Ss Fs[k] = (bare4 Fs[k].le Fs[k].mo Fs[k].words.length Fs[k].we && sound4 Ss Fs[k].to Fs[k].ro Fs[k].mu Fs[k].df && (Fs[k].df.toList.isEmpty || fitsB 4 Fs[k].le Fs[k].mo Fs[k].words Fs[k].df))) := by unfold Hid restB; rw [if_neg hk1, if_neg hk2, if_neg hk3, if_pos hk4]
                have hlk : (Instr.lookup 65 (.map (some r)) (.int .i64 Fs[k].kd) true).run Tryz.prog w1 = .ok (.tuple #[.func (.func 68) #[] #[], .bool true]) w1 := by rw [hk4]; exact look_of w1 r 4 _ HR1.out find4
                clear hk1 hk2 hk3 hk4
                go_wp2
                go_region_with (first
                  | (go_at_call 68; refine (new52 _ _ _ _ _ _ _ _ _ _ _ _ _ _).mono ?_; rintro e w2 ⟨rfl, hb2⟩; have HC2 : Hid (Below (wr.heap.size + 1) (wr.alloc (.cells #[.string Fs[k].nm, .int .i64 Fs[k].kd, .int .i64 Fs[k].le, .int .i64 Fs[k].mo, .slice wa Fs[k].words.length wcap, .string Fs[k].to, .int .i64 Fs[k].ro, .bool Fs[k].mu, .bool Fs[k].fx, .string Fs[k].df, .string Fs[k].we] 56)) w2) := (HC1.out.drew).trans (hb2.mono (by have := HC1.out.size; simp at this; exact this)); have hbx2 := fun i => box_cell wr w2 #[.string Fs[k].nm, .int .i64 Fs[k].kd, .int .i64 Fs[k].le, .int .i64 Fs[k].mo, .slice wa Fs[k].words.length wcap, .string Fs[k].to, .int .i64 Fs[k].ro, .bool Fs[k].mu, .bool Fs[k].fx, .string Fs[k].df, .string Fs[k].we] 56 HC2.out i; have HB2 : Hid (Below w.heap.size w w2) := (HB1.out.drew).trans (hb2.mono HB1.out.size); clear hb2)
                  | (go_at_call 71; refine (implField4 _ _ _ _ _ _ _ _ _ _ Fs[k].words _ _ _ lo _ Ss (HL.out.below HB2.out) (HWS0.out.below HB2.out) hzz.s9 hzz.s10).mono ?_; rintro e w3 ⟨rfl, hb3⟩; rw [← HRE.out]; have HB3 : Hid (Below w.heap.size w w3) := HB2.out.trans (hb3.mono HB2.out.size); clear hb3))
                all_goals
                  cases hre : restB Ss Fs[k] with
                  | false =>
                    have HN : Hid (fieldsB Ss Fs = false) := fields_no hlt (by rw [fieldAt_of hlt, hre]; simp)
                    go_wp2
                    go_ret
                    exact ⟨ret_bool HN.out.symm, HB3.out⟩
                  | true =>
                    have HFA : Hid (fieldAt Ss Fs k = true) := by unfold Hid; rw [fieldAt_of hlt, hnm, hre, hdp]; rfl
                    go_wp2
                    go_roundw
                    case rel => exact ⟨k + 1, by go_num, by omega, HB3.out, fun i hi => by
                                  by_cases e : i = k
                                  · rw [e]; exact HFA.out
                                  · exact HA.out i (by omega)⟩
                    case measure => simp [intOf]; omega
              have HN : Hid (fieldsB Ss Fs = false) := fields_no hlt (by rw [fieldAt_of hlt]; simp [restB, hk1, hk2, hk3, hk4])
              have hlk : (Instr.lookup 65 (.map (some r)) (.int .i64 Fs[k].kd) true).run Tryz.prog w1 = .ok (.tuple #[.nilFunc, .bool false]) w1 := look_of w1 r _ _ HR1.out (find0 hk1 hk2 hk3 hk4)
              clear hk1 hk2 hk3 hk4
              go_wp2
              go_quiet (fail)
              go_wp2
              go_ret
              exact ⟨ret_bool HN.out.symm, below_drewN HB1.out _⟩
      · go_wp2
        go_ret
        exact ⟨ret_bool (fields_yes (by omega) (fun i hi => HA.out i (by omega))).symm, HB.out⟩
  · go_enter Tryz.func41, Tryz.ntmps41
    go_wp2
    go_ret
    exact ⟨ret_bool (fields_big (by omega)).symm, Below.refl _ _⟩
end Go.Proofs.YtjkkbkdpoebfaaaGreat
