import Derived.Test.YtfohnageehneoaaGreatUB5
import Derived.Deep.RegionWith
import Derived.Test.YtfohnageehneoaaGreatUB1
import Derived.Test.YtfohnageehneoaaGreatUA1
import Derived.Test.YtfohnageehneoaaGreatUB2
import Derived.Test.YtfohnageehneoaaGreatUB4
import Derived.Test.YtfohnageehneoaaGreatUA2
import Derived.Test.YtfohnageehneoaaGreatUS9
namespace Go.Proofs.YtfohnageehneoaaGreat
open Go.RowKit Go.Deep

set_option maxRecDepth 100000 in
set_option maxHeartbeats 10000000 in
theorem fieldsOk_any (r lo lo' : Nat) (lv fv : Value) (Ss : List Sh) (Fs : List Fd) (w : World) (hr : w.heap[r]? = some (.map makerEntries 4)) (hl : ShsAt lo w lv Ss) (hv : FdsAt lo' w fv Fs) :
    Calls Tryz.prog 225 #[.map (some r), lv, fv] w fun e w' => e = .returned (.bool (fieldsB Ss Fs)) ∧ Below w.heap.size w w' := by
  have HL := hide hl
  have HR := hide hr
  have hrl : r < w.heap.size := (Array.getElem?_eq_some_iff.1 hr).1
  obtain ⟨la, lcap, rfl⟩ := hl.form
  clear hl hr
  by_cases hL : Fs = []
  · subst hL
    obtain ⟨a, cap, rfl⟩ := nil_form hv
    clear hv
    go_enter Tryz.func225, Tryz.ntmps225
    go_wp2
    go_loop [16] (fun i => i = .int .i64 0) (fun _ => 0)
    case atStart => rfl
    case round =>
      subst hrel
      go_wp2
      go_ret
      exact ⟨rfl, Below.refl _ _⟩
  have HFV := hide hv
  obtain ⟨b, off, cap, rfl, hm, hbw, hcp, hc⟩ := hv.full hL
  have hlo : Hid (lo' ≤ b) := by
    rcases hv with ⟨_, _, _, h⟩ | ⟨b', off', cap', h1, _, _, _, h5, _⟩
    · exact absurd h hL
    · simp only [Value.slice.injEq, Option.some.injEq, Addr.mk.injEq] at h1
      unfold Hid; omega
  clear hv
  have HM := hide hm
  unfold maxLen at hm
  by_cases h6 : (Fs.length : Int) ≤ 6
  · go_enter Tryz.func225, Tryz.ntmps225
    go_wp2
    go_loopw [16] (fun i wr => ∃ k : Nat, i = .int .i64 k ∧ k ≤ Fs.length ∧ Below w.heap.size w wr ∧ ∀ i, i < k → fieldAt Ss Fs i = true) (fun i _ => Fs.length - (intOf i).toNat)
    case atStart => exact ⟨0, rfl, by omega, Below.refl _ _, fun i h => by omega⟩
    case round =>
      obtain ⟨k, rfl, hk, hb, hall⟩ := hrel
      have HA := hide hall
      have HB := hide hb
      clear hall hb
      by_cases hlt : k < Fs.length
      · obtain ⟨hzz, wv, hcell, hws⟩ := hc k hlt
        have HWS0 : Hid (StrsAt w wv Fs[k].words) := hws.at
        obtain ⟨wa, wcap, rfl⟩ := hws.at.form_len
        clear hws
        have hbo : b < wr.heap.size := Nat.lt_of_lt_of_le hbw HB.out.size
        have HTK : Hid (FdsAt lo' wr (.slice (some ⟨b, off, none⟩) k cap) (Fs.take k)) := FdsAt.take hk HM.out hbo hlo.out hcp (fun i hi => by
          obtain ⟨q1, wv', q2, q3⟩ := hc i hi
          exact ⟨q1, wv', q2.below HB.out hbw, q3.below HB.out⟩)
        obtain ⟨c0, c1, c2, c3, c4, c5, c6, c7, c8, c9, c10⟩ := hcell.below HB.out hbw
        clear hcell
        have hW : ∀ o, Hid (Below wr.heap.size wr (wr.alloc o)) := fun o => (Below.refl _ _).alloc (Nat.le_refl _) _
        cases hnm : nameB Fs[k].nm with
        | false =>
          have HN : Hid (fieldsB Ss Fs = false) := fields_no hlt (by rw [fieldAt_of hlt, hnm]; rfl)
          go_wp2
          go_quiet ((go_at_call 110; exact Calls.quiet_of_same (isName_any _ _ hzz.s0)))
          go_wp2
          go_ret
          exact ⟨ret_bool HN.out.symm, below_drewN (HB.out.alloc HB.out.size _) _⟩
        | true =>
          go_wp2
          go_region_with (first
            | (go_at_call 110; refine (isName_any _ _ hzz.s0).mono ?_; rintro e w' ⟨rfl, rfl⟩)
            | (go_at_call 254; refine (hasField_any lo' _ (Fs.take k) _ _ (HTK.out.below (Below.drew (hW _).out))).mono ?_; rintro e w1 ⟨rfl, hb1⟩; have HB1 : Hid (Below w.heap.size w w1) := HB.out.trans ((((hW _).out.drew).mono HB.out.size).trans (hb1.mono (by have := HB.out.size; simp; omega))); have HC1 : Hid (Below (wr.heap.size + 1) (wr.alloc (.cells #[.string Fs[k].nm, .int .i64 Fs[k].kd, .int .i64 Fs[k].le, .int .i64 Fs[k].mo, .slice wa Fs[k].words.length wcap, .string Fs[k].to, .int .i64 Fs[k].ro, .bool Fs[k].mu, .bool Fs[k].fx, .string Fs[k].df, .string Fs[k].we] 218)) w1) := ((Below.refl _ _).drew).trans (hb1.mono (by simp)); clear hb1))
          all_goals
            have HR1 : Hid (w1.heap[r]? = some (.map makerEntries 4)) := by unfold Hid; rw [HB1.out.block r hrl]; exact HR.out
            have hbx := fun i => box_cell wr w1 #[.string Fs[k].nm, .int .i64 Fs[k].kd, .int .i64 Fs[k].le, .int .i64 Fs[k].mo, .slice wa Fs[k].words.length wcap, .string Fs[k].to, .int .i64 Fs[k].ro, .bool Fs[k].mu, .bool Fs[k].fx, .string Fs[k].df, .string Fs[k].we] 218 HC1.out i
            cases hdp : dupB (Fs.take k) Fs[k].nm with
            | true =>
              have HN : Hid (fieldsB Ss Fs = false) := fields_no hlt (by rw [fieldAt_of hlt, hdp]; simp)
              go_wp2
              go_ret
              exact ⟨ret_bool HN.out.symm, HB1.out⟩
            | false =>
              by_cases hk1 : Fs[k].kd = 1
              · have HRE : Hid (restB Ss Fs[k] = (bare1 Fs[k].words.length Fs[k].to Fs[k].ro && sound1 Fs[k].le Fs[k].mo Fs[k].we && (Fs[k].df.toList.isEmpty || fitsB 1 Fs[k].le Fs[k].mo Fs[k].words Fs[k].df))) := by unfold Hid restB; rw [if_pos hk1]
                have hlk : (Instr.lookup 274 (.map (some r)) (.int .i64 Fs[k].kd) true).run Tryz.prog w1 = .ok (.tuple #[.func (.func 250) #[] #[], .bool true]) w1 := by rw [hk1]; exact look_of w1 r 1 _ HR1.out find1
                clear hk1
                go_wp2
                go_region_with (first
                  | (go_at_call 250; refine (new49 _ _ _ _ _ _ _ _ _ _ _ _ _ _).mono ?_; rintro e w2 ⟨rfl, hb2⟩; have HC2 : Hid (Below (wr.heap.size + 1) (wr.alloc (.cells #[.string Fs[k].nm, .int .i64 Fs[k].kd, .int .i64 Fs[k].le, .int .i64 Fs[k].mo, .slice wa Fs[k].words.length wcap, .string Fs[k].to, .int .i64 Fs[k].ro, .bool Fs[k].mu, .bool Fs[k].fx, .string Fs[k].df, .string Fs[k].we] 218)) w2) := (HC1.out.drew).trans (hb2.mono (by have := HC1.out.size; simp at this; exact this)); have hbx2 := fun i => box_cell wr w2 #[.string Fs[k].nm, .int .i64 Fs[k].kd, .int .i64 Fs[k].le, .int .i64 Fs[k].mo, .slice wa Fs[k].words.length wcap, .string Fs[k].to, .int .i64 Fs[k].ro, .bool Fs[k].mu, .bool Fs[k].fx, .string Fs[k].df, .string Fs[k].we] 218 HC2.out i; have HB2 : Hid (Below w.heap.size w w2) := (HB1.out.drew).trans (hb2.mono HB1.out.size); clear hb2)
                  | (go_at_call 255; refine (implField1 _ _ _ _ _ _ _ _ _ _ Fs[k].words _ _ _ lo _ Ss (HL.out.below HB2.out) (HWS0.out.below HB2.out) hzz.s9 hzz.s10).mono ?_; rintro e w3 ⟨rfl, hb3⟩; rw [← HRE.out]; have HB3 : Hid (Below w.heap.size w w3) := HB2.out.trans (hb3.mono HB2.out.size); clear hb3))
                all_goals
                  cases hre : restB Ss Fs[k] with
                  | false =>
                    have HN : Hid (fieldsB Ss Fs = false) := fields_no hlt (by rw [fieldAt_of hlt, hre]; simp)
                    go_wp2
                    go_ret
                    exact ⟨ret_bool HN.out.symm, HB3.out⟩
                  | true =>
                    have HFA : Hid (fieldAt Ss Fs k = true) := by unfold Hid; rw [fieldAt_of hlt, hnm, hre, hdp]; rfl
                    go_wp2
                    go_roundw
                    case rel => exact ⟨k + 1, by go_num, by omega, HB3.out, fun i hi => by
                                  by_cases e : i = k
                                  · rw [e]; exact HFA.out
                                  · exact HA.out i (by omega)⟩
                    case measure => simp [intOf]; omega
              by_cases hk2 : Fs[k].kd = 2
              · have HRE : Hid (restB Ss Fs[k] = (bare2 Fs[k].le Fs[k].mo Fs[k].to Fs[k].ro Fs[k].we && sound2 Fs[k].words.length Fs[k].words && (Fs[k].df.toList.isEmpty || fitsB 2 Fs[k].le Fs[k].mo Fs[k].words Fs[k].df))) := by unfold Hid restB; rw [if_neg hk1, if_pos hk2]
                have hlk : (Instr.lookup 274 (.map (some r)) (.int .i64 Fs[k].kd) true).run Tryz.prog w1 = .ok (.tuple #[.func (.func 251) #[] #[], .bool true]) w1 := by rw [hk2]; exact look_of w1 r 2 _ HR1.out find2
                clear hk1 hk2
                go_wp2
                go_region_with (first
                  | (go_at_call 251; refine (new50 _ _ _ _ _ _ _ _ _ _ _ _ _ _).mono ?_; rintro e w2 ⟨rfl, hb2⟩; have HC2 : Hid (Below (wr.heap.size + 1) (wr.alloc (.cells #[.string Fs[k].nm, .int .i64 Fs[k].kd, .int .i64 Fs[k].le, .int .i64 Fs[k].mo, .slice wa Fs[k].words.length wcap, .string Fs[k].to, .int .i64 Fs[k].ro, .bool Fs[k].mu, .bool Fs[k].fx, .string Fs[k].df, .string Fs[k].we] 218)) w2) := (HC1.out.drew).trans (hb2.mono (by have := HC1.out.size; simp at this; exact this)); have hbx2 := fun i => box_cell wr w2 #[.string Fs[k].nm, .int .i64 Fs[k].kd, .int .i64 Fs[k].le, .int .i64 Fs[k].mo, .slice wa Fs[k].words.length wcap, .string Fs[k].to, .int .i64 Fs[k].ro, .bool Fs[k].mu, .bool Fs[k].fx, .string Fs[k].df, .string Fs[k].we] 218 HC2.out i; have HB2 : Hid (Below w.heap.size w w2) := (HB1.out.drew).trans (hb2.mono HB1.out.size); clear hb2)
                  | (go_at_call 255; refine (implField2 _ _ _ _ _ _ _ _ _ _ Fs[k].words _ _ _ lo _ Ss (HL.out.below HB2.out) (HWS0.out.below HB2.out) hzz.s9 hzz.s10).mono ?_; rintro e w3 ⟨rfl, hb3⟩; rw [← HRE.out]; have HB3 : Hid (Below w.heap.size w w3) := HB2.out.trans (hb3.mono HB2.out.size); clear hb3))
                all_goals
                  cases hre : restB Ss Fs[k] with
                  | false =>
                    have HN : Hid (fieldsB Ss Fs = false) := fields_no hlt (by rw [fieldAt_of hlt, hre]; simp)
                    go_wp2
                    go_ret
                    exact ⟨ret_bool HN.out.symm, HB3.out⟩
                  | true =>
                    have HFA : Hid (fieldAt Ss Fs k = true) := by unfold Hid; rw [fieldAt_of hlt, hnm, hre, hdp]; rfl
                    go_wp2
                    go_roundw
                    case rel => exact ⟨k + 1, by go_num, by omega, HB3.out, fun i hi => by
                                  by_cases e : i = k
                                  · rw [e]; exact HFA.out
                                  · exact HA.out i (by omega)⟩
                    case measure => simp [intOf]; omega
              by_cases hk3 : Fs[k].kd = 3
              · have HRE : Hid (restB Ss Fs[k] = (bare3 Fs[k].words.length Fs[k].to Fs[k].ro Fs[k].we && sound3 Fs[k].le Fs[k].mo && (Fs[k].df.toList.isEmpty || fitsB 3 Fs[k].le Fs[k].mo Fs[k].words Fs[k].df))) := by unfold Hid restB; rw [if_neg hk1, if_neg hk2, if_pos hk3]
                have hlk : (Instr.lookup 274 (.map (some r)) (.int .i64 Fs[k].kd) true).run Tryz.prog w1 = .ok (.tuple #[.func (.func 252) #[] #[], .bool true]) w1 := by rw [hk3]; exact look_of w1 r 3 _ HR1.out find3
                clear hk1 hk2 hk3
                go_wp2
                go_region_with (first
                  | (go_at_call 252; refine (new51 _ _ _ _ _ _ _ _ _ _ _ _ _ _).mono ?_; rintro e w2 ⟨rfl, hb2⟩; have HC2 : Hid (Below (wr.heap.size + 1) (wr.alloc (.cells #[.string Fs[k].nm, .int .i64 Fs[k].kd, .int .i64 Fs[k].le, .int .i64 Fs[k].mo, .slice wa Fs[k].words.length wcap, .string Fs[k].to, .int .i64 Fs[k].ro, .bool Fs[k].mu, .bool Fs[k].fx, .string Fs[k].df, .string Fs[k].we] 218)) w2) := (HC1.out.drew).trans (hb2.mono (by have := HC1.out.size; simp at this; exact this)); have hbx2 := fun i => box_cell wr w2 #[.string Fs[k].nm, .int .i64 Fs[k].kd, .int .i64 Fs[k].le, .int .i64 Fs[k].mo, .slice wa Fs[k].words.length wcap, .string Fs[k].to, .int .i64 Fs[k].ro, .bool Fs[k].mu, .bool Fs[k].fx, .string Fs[k].df, .string Fs[k].we] 218 HC2.out i; have HB2 : Hid (Below w.heap.size w w2) := (HB1.out.drew).trans (hb2.mono HB1.out.size); clear hb2)
                  | (go_at_call 255; refine (implField3 _ _ _ _ _ _ _ _ _ _ Fs[k].words _ _ _ lo _ Ss (HL.out.below HB2.out) (HWS0.out.below HB2.out) hzz.s9 hzz.s10).mono ?_; rintro e w3 ⟨rfl, hb3⟩; rw [← HRE.out]; have HB3 : Hid (Below w.heap.size w w3) := HB2.out.trans (hb3.mono HB2.out.size); clear hb3))
                all_goals
                  cases hre : restB Ss Fs[k] with
                  | false =>
                    have HN : Hid (fieldsB Ss Fs = false) := fields_no hlt (by rw [fieldAt_of hlt, hre]; simp)
                    go_wp2
                    go_ret
                    exact ⟨ret_bool HN.out.symm, HB3.out⟩
                  | true =>
                    have HFA : Hid (fieldAt Ss Fs k = true) := by unfold Hid; rw [fieldAt_of hlt, hnm, hre, hdp]; rfl
                    go_wp2
                    go_roundw
                    case rel => exact ⟨k + 1, by go_num, by omega, HB3.out, fun i hi => by
                                  by_cases e : i = k
                                  · rw [e]; exact HFA.out
                                  · exact HA.out i (by omega)⟩
                    case measure => simp [intOf]; omega
              by_cases hk4 : Fs[k].kd = 4
              · have HRE : Hid (restB Ss Fs[k] = (bare4 Fs[k].le Fs[k].mo Fs[k].words.length Fs[k].we && sound4 Ss Fs[k].to Fs[k].ro Fs[k].mu Fs[k].df && (Fs[k].df.toList.isEmpty || fitsB 4 Fs[k].le Fs[k].mo Fs[k].words Fs[k].df))) := by unfold Hid restB; rw [if_neg hk1, if_neg hk2, if_neg hk3, if_pos hk4]
                have hlk : (Instr.lookup 274 (.map (some r)) (.int .i64 Fs[k].kd) true).run Tryz.prog w1 = .ok (.tuple #[.func (.func 253) #[] #[], .bool true]) w1 := by rw [hk4]; exact look_of w1 r 4 _ HR1.out find4
                clear hk1 hk2 hk3 hk4
                go_wp2
                go_region_with (first
                  | (go_at_call 253; refine (new52 _ _ _ _ _ _ _ _ _ _ _ _ _ _).mono ?_; rintro e w2 ⟨rfl, hb2⟩; have HC2 : Hid (Below (wr.heap.size + 1) (wr.alloc (.cells #[.string Fs[k].nm, .int .i64 Fs[k].kd, .int .i64 Fs[k].le, .int .i64 Fs[k].mo, .slice wa Fs[k].words.length wcap, .string Fs[k].to, .int .i64 Fs[k].ro, .bool Fs[k].mu, .bool Fs[k].fx, .string Fs[k].df, .string Fs[k].we] 218)) w2) := (HC1.out.drew).trans (hb2.mono (by have := HC1.out.size; simp at this; exact this)); have hbx2 := fun i => box_cell wr w2 #[.string Fs[k].nm, .int .i64 Fs[k].kd, .int .i64 Fs[k].le, .int .i64 Fs[k].mo, .slice wa Fs[k].words.length wcap, .string Fs[k].to, .int .i64 Fs[k].ro, .bool Fs[k].mu, .bool Fs[k].fx, .string Fs[k].df, .string Fs[k].we] 218 HC2.out i; have HB2 : Hid (Below w.heap.size w w2) := (HB1.out.drew).trans (hb2.mono HB1.out.size); clear hb2)
                  | (go_at_call 255; refine (implField4 _ _ _ _ _ _ _ _ _ _ Fs[k].words _ _ _ lo _ Ss (HL.out.below HB2.out) (HWS0.out.below HB2.out) hzz.s9 hzz.s10).mono ?_; rintro e w3 ⟨rfl, hb3⟩; rw [← HRE.out]; have HB3 : Hid (Below w.heap.size w w3) := HB2.out.trans (hb3.mono HB2.out.size); clear hb3))
                all_goals
                  cases hre : restB Ss Fs[k] with
                  | false =>
                    have HN : Hid (fieldsB Ss Fs = false) := fields_no hlt (by rw [fieldAt_of hlt, hre]; simp)
                    go_wp2
                    go_ret
                    exact ⟨ret_bool HN.out.symm, HB3.out⟩
                  | true =>
                    have HFA : Hid (fieldAt Ss Fs k = true) := by unfold Hid; rw [fieldAt_of hlt, hnm, hre, hdp]; rfl
                    go_wp2
                    go_roundw
                    case rel => exact ⟨k + 1, by go_num, by omega, HB3.out, fun i hi => by
                                  by_cases e : i = k
                                  · rw [e]; exact HFA.out
                                  · exact HA.out i (by omega)⟩
                    case measure => simp [intOf]; omega
              have HN : Hid (fieldsB Ss Fs = false) := fields_no hlt (by rw [fieldAt_of hlt]; simp [restB, hk1, hk2, hk3, hk4])
              have hlk : (Instr.lookup 274 (.map (some r)) (.int .i64 Fs[k].kd) true).run Tryz.prog w1 = .ok (.tuple #[.nilFunc, .bool false]) w1 := look_of w1 r _ _ HR1.out (find0 hk1 hk2 hk3 hk4)
              clear hk1 hk2 hk3 hk4
              go_wp2
              go_quiet (fail)
              go_wp2
              go_ret
              exact ⟨ret_bool HN.out.symm, below_drewN HB1.out _⟩
      · go_wp2
        go_ret
        exact ⟨ret_bool (fields_yes (by omega) (fun i hi => HA.out i (by omega))).symm, HB.out⟩
  · go_enter Tryz.func225, Tryz.ntmps225
    go_wp2
    go_ret
    exact ⟨ret_bool (fields_big (by omega)).symm, Below.refl _ _⟩
end Go.Proofs.YtfohnageehneoaaGreat

namespace Go.Proofs.YtfohnageehneoaaGreat
open Go.RowKit Go.Deep

theorem shapes_all {Ss : List Sh} {k : Nat} (h6 : Ss.length ≤ 6) (hk : Ss.length ≤ k) (h : ∀ i, i < k → shapeAt Ss i = true) : shapesB Ss = true := by
  unfold shapesB
  rw [range_all (fun i hi => h i (by omega))]
  simp [h6]

set_option maxRecDepth 100000 in
set_option maxHeartbeats 4000000 in
theorem implShapes_any (lo : Nat) (v : Value) (Ss : List Sh) (w : World) (hv : ShsAt lo w v Ss) :
    Calls Tryz.prog 192 #[v] w fun e w' => e = .returned (.bool (shapesB Ss)) ∧ Below w.heap.size w w' := by
  have HL := hide hv
  have HW : ∀ o, Hid (Below w.heap.size w (w.alloc o)) := fun o => (Below.refl _ _).alloc (Nat.le_refl _) _
  by_cases hL : Ss = []
  · subst hL
    obtain ⟨a, cap, rfl⟩ := hv.form
    clear hv
    go_enter Tryz.func192, Tryz.ntmps192
    go_wp2_with fail
    refine (makers_any _).mono ?_
    rintro e w1 ⟨rfl, rfl⟩
    go_wp2
    go_loop [12] (fun i => i = .int .i64 0) (fun _ => 0)
    case atStart => rfl
    case round =>
      subst hrel
      go_wp2
      go_ret
      exact ⟨rfl, (HW _).out⟩
  obtain ⟨b, off, cap, rfl, hm, hbw, hc⟩ := hv.full hL
  clear hv
  unfold maxLen at hm
  by_cases h6 : (Ss.length : Int) ≤ 6
  · go_enter Tryz.func192, Tryz.ntmps192
    go_wp2_with fail
    refine (makers_any _).mono ?_
    rintro e w1 ⟨rfl, hw1⟩
    have HB0 : Hid (Below w.heap.size w w1) := by unfold Hid; rw [hw1]; exact (HW _).out
    have HR0 : Hid (w1.heap[w.heap.size]? = some (.map makerEntries 4)) := by unfold Hid; rw [hw1]; exact (MapKept.heap_alloc w _).1
    have hz1 : w.heap.size < w1.heap.size := by rw [hw1]; simp
    clear hw1
    go_wp2
    go_loopw [12] (fun i wr => ∃ k : Nat, i = .int .i64 k ∧ k ≤ Ss.length ∧ Below w1.heap.size w1 wr ∧ ∀ i, i < k → shapeAt Ss i = true) (fun i _ => Ss.length - (intOf i).toNat)
    case atStart => exact ⟨0, rfl, by omega, Below.refl _ _, fun i h => by omega⟩
    case round =>
      obtain ⟨k, rfl, hk, hb1, hall⟩ := hrel
      have HA := hide hall
      have HB1 := hide hb1
      have HB : Hid (Below w.heap.size w wr) := HB0.out.trans (hb1.mono HB0.out.size)
      have HR : Hid (wr.heap[w.heap.size]? = some (.map makerEntries 4)) := by unfold Hid; rw [hb1.block w.heap.size hz1]; exact HR0.out
      clear hall hb1
      by_cases hlt : k < Ss.length
      · obtain ⟨hsz, fv, d0, d1, hst⟩ := hc k hlt
        have c0 : wr.cell? ⟨b, off + k * 2, none⟩ = some (.string Ss[k].kind) := by rw [HB.out.cell (p := ⟨b, _, none⟩) hbw]; exact d0
        have c1 : wr.cell? ⟨b, off + k * 2 + 1, none⟩ = some fv := by rw [HB.out.cell (p := ⟨b, _, none⟩) hbw]; exact d1
        have HST := hide hst
        obtain ⟨fa, fcap, rfl⟩ := hst.form
        clear d0 d1 hst
        have hbo : b < wr.heap.size := Nat.lt_of_lt_of_le hbw HB.out.size
        cases hnm : nameB Ss[k].kind with
        | false =>
          have HN : Hid (shapesB Ss = false) := by
            unfold Hid
            refine shapes_no hlt ?_
            cases k with
            | zero => rw [shapeAt_zero hlt, hnm]; rfl
            | succ j => rw [shapeAt_succ hlt, hnm]; rfl
          go_wp2
          go_quiet ((go_at_call 110; exact Calls.quiet_of_same (isName_any _ _ hsz)))
          go_wp2
          go_ret
          exact ⟨ret_bool HN.out.symm, below_drewN (HB.out.alloc HB.out.size _) _⟩
        | true =>
          cases k with
          | zero =>
            have HEQ : Hid (shapeAt Ss 0 = fieldsB Ss Ss[0].fields) := by unfold Hid; rw [shapeAt_zero hlt, hnm]; rfl
            have c0' : wr.cell? ⟨b, off, none⟩ = some (.string Ss[0].kind) := by simpa using c0
            have c1' : wr.cell? ⟨b, off + 1, none⟩ = some (.slice fa Ss[0].fields.length fcap) := by simpa using c1
            clear c0 c1
            go_wp2
            go_quiet ((go_at_call 110; exact Calls.quiet_of_same (isName_any _ _ hsz)))
            go_wp2_with fail
            have HBD : ∀ o n, Hid (Below w.heap.size w ((wr.alloc o).drewN n)) := fun o n => below_drewN (HB.out.alloc HB.out.size _) _
            have HRD : ∀ o n, Hid (((wr.alloc o).drewN n).heap[w.heap.size]? = some (.map makerEntries 4)) := fun o n => by
              unfold Hid
              rw [(below_drewN ((Below.refl wr.heap.size wr).alloc (Nat.le_refl _) o) n).block w.heap.size (Nat.lt_of_lt_of_le hz1 HB1.out.size)]; exact HR.out
            refine (fieldsOk_any w.heap.size lo lo _ _ Ss Ss[0].fields _ (HRD _ _).out (HL.out.below (HBD _ _).out) (HST.out.below (HBD _ _).out)).mono ?_
            rintro e w3 ⟨rfl, hb3⟩
            have HB3 : Hid (Below w.heap.size w w3) := (HBD _ _).out.trans (hb3.mono (HBD _ _).out.size)
            have HB13 : Hid (Below w1.heap.size w1 w3) := (below_drewN (HB1.out.alloc HB1.out.size _) _).trans (hb3.mono (below_drewN (HB1.out.alloc HB1.out.size _) _).size)
            clear hb3
            cases hfb : fieldsB Ss Ss[0].fields with
            | false =>
              have HN : Hid (shapesB Ss = false) := shapes_no hlt (by rw [HEQ.out]; exact hfb)
              go_wp2
              go_ret
              exact ⟨ret_bool HN.out.symm, HB3.out⟩
            | true =>
              have hnx : Hid (∀ i, i < 0 + 1 → shapeAt Ss i = true) := fun i hi => by
                by_cases e : i = 0
                · rw [e, HEQ.out]; exact hfb
                · exact HA.out i (by omega)
              go_wp2
              go_roundw
              case rel => exact ⟨0 + 1, by go_num, by omega, HB13.out, hnx.out⟩
              case measure => simp [intOf]; omega
          | succ jj =>
            obtain ⟨_, fvj, dj, _, _⟩ := hc jj (by omega)
            have cj : wr.cell? ⟨b, off + jj * 2, none⟩ = some (.string Ss[jj].kind) := by rw [HB.out.cell (p := ⟨b, _, none⟩) hbw]; exact dj
            clear dj
            have hjw : IntKind.i64.wrap (jj : Int) = jj := by rw [IntKind.wrap_i64]; omega
            have hjl : jj < Ss.length := by omega
            have hdl : decide ((jj : Int) + 1 < (Ss.length : Int)) = true := by simp; omega
            have cj2 : ∀ o, (wr.alloc o).cell? ⟨b, off + jj * 2, none⟩ = some (.string Ss[jj].kind) := fun o => by rw [((Below.refl wr.heap.size wr).alloc (Nat.le_refl _) o).cell (p := ⟨b, _, none⟩) hbo]; exact cj
            have cj3 : ∀ o n, ((wr.alloc o).drewN n).cell? ⟨b, off + jj * 2, none⟩ = some (.string Ss[jj].kind) := fun o n => cj2 o
            cases hls : Op.bytesLess Ss[jj].kind.toList Ss[jj + 1].kind.toList with
            | false =>
              have HN : Hid (shapesB Ss = false) := shapes_no hlt (by rw [shapeAt_succ hlt, hls]; simp)
              go_wp2
              go_quiet ((go_at_call 110; exact Calls.quiet_of_same (isName_any _ _ hsz)))
              go_wp2
              go_ret
              exact ⟨ret_bool HN.out.symm, below_drewN (HB.out.alloc HB.out.size _) _⟩
            | true =>
              have HEQ : Hid (shapeAt Ss (jj + 1) = fieldsB Ss Ss[jj + 1].fields) := by unfold Hid; rw [shapeAt_succ hlt, hnm, hls]; rfl
              go_wp2
              go_quiet ((go_at_call 110; exact Calls.quiet_of_same (isName_any _ _ hsz)))
              go_wp2_with fail
              have HBD : ∀ o n, Hid (Below w.heap.size w ((wr.alloc o).drewN n)) := fun o n => below_drewN (HB.out.alloc HB.out.size _) _
              have HRD : ∀ o n, Hid (((wr.alloc o).drewN n).heap[w.heap.size]? = some (.map makerEntries 4)) := fun o n => by
                unfold Hid
                rw [(below_drewN ((Below.refl wr.heap.size wr).alloc (Nat.le_refl _) o) n).block w.heap.size (Nat.lt_of_lt_of_le hz1 HB1.out.size)]; exact HR.out
              refine (fieldsOk_any w.heap.size lo lo _ _ Ss Ss[jj + 1].fields _ (HRD _ _).out (HL.out.below (HBD _ _).out) (HST.out.below (HBD _ _).out)).mono ?_
              rintro e w3 ⟨rfl, hb3⟩
              have HB3 : Hid (Below w.heap.size w w3) := (HBD _ _).out.trans (hb3.mono (HBD _ _).out.size)
              have HB13 : Hid (Below w1.heap.size w1 w3) := (below_drewN (HB1.out.alloc HB1.out.size _) _).trans (hb3.mono (below_drewN (HB1.out.alloc HB1.out.size _) _).size)
              clear hb3
              cases hfb : fieldsB Ss Ss[jj + 1].fields with
              | false =>
                have HN : Hid (shapesB Ss = false) := shapes_no hlt (by rw [HEQ.out]; exact hfb)
                go_wp2
                go_ret
                exact ⟨ret_bool HN.out.symm, HB3.out⟩
              | true =>
                have hnx : Hid (∀ i, i < jj + 1 + 1 → shapeAt Ss i = true) := fun i hi => by
                  by_cases e : i = jj + 1
                  · rw [e, HEQ.out]; exact hfb
                  · exact HA.out i (by omega)
                go_wp2
                go_roundw
                case rel => exact ⟨jj + 1 + 1, by go_num, by omega, HB13.out, hnx.out⟩
                case measure => simp [intOf]; omega
      · go_wp2
        go_ret
        exact ⟨ret_bool (shapes_all (by omega) (by omega) HA.out).symm, HB.out⟩
  · go_enter Tryz.func192, Tryz.ntmps192
    go_wp2
    go_ret
    exact ⟨ret_bool (by unfold shapesB; simp; intro h; omega), Below.refl _ _⟩
end Go.Proofs.YtfohnageehneoaaGreat

