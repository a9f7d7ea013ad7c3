import Derived.Test.YtfohnageehneoaaGreatUSL
import Derived.Test.YtfohnageehneoaaGreatUAQ8
import Derived.Test.YtfohnageehneoaaGreatUAQA
import Derived.Test.YtfohnageehneoaaGreatUWN
import Derived.Test.YtfohnageehneoaaGreatUA1
import Derived.Test.YtfohnageehneoaaGreatUB1
import Derived.Test.YtfohnageehneoaaGreatUTA
import Derived.Test.YtfohnageehneoaaGreatUHC
import Derived.Test.YtfohnageehneoaaGreatUDA
import Derived.Test.YtfohnageehneoaaGreatULA
import Derived.Test.YtfohnageehneoaaGreatUOPB
namespace Go.Proofs.YtfohnageehneoaaGreat
open Go.RowKit Go.Deep

def wantB (x : Wn) : Bool := nameB x.kd && nameB x.nm && decide (0 ≤ x.ve)
def wantsB (L : List Wn) : Bool := decide (L.length ≤ 8) && L.all wantB
def slipB (Ss : List Sh) (Ts : List Tm) (S : Sl) : Bool := nameB S.dr && (askB Ss Ts S.ak && (decide (0 ≤ S.gn) && wantsB S.ws))

set_option maxRecDepth 20000 in
set_option maxHeartbeats 4000000 in
theorem implWants_any (lo : Nat) (v : Value) (L : List Wn) (w : World) (h : WnsAt lo w v L) :
    Calls Tryz.prog 148 #[v] w fun e w' => e = .returned (.bool (wantsB L)) ∧ Below w.heap.size w w' := by
  have HI : Hid (wantsB L = (decide (L.length ≤ 8) && L.all wantB)) := rfl
  have HG := hide h
  obtain ⟨a, cap, rfl⟩ := h.form
  clear h
  by_cases hl : L.length ≤ 8
  case neg =>
    have HE : Hid (wantsB L = false) := by unfold Hid; rw [HI.out, decide_eq_false hl]; rfl
    have hgt : decide ((8 : Int) < (L.length : Int)) = true := by simp; omega
    go_enter Tryz.func148, Tryz.ntmps148
    go_wp2
    go_ret
    exact ⟨ret_bool HE.out.symm, Below.refl _ _⟩
  have hgt : decide ((8 : Int) < (L.length : Int)) = false := by simp; omega
  have HE : Hid (wantsB L = L.all wantB) := by unfold Hid; rw [HI.out, decide_eq_true hl]; rfl
  go_enter Tryz.func148, Tryz.ntmps148
  go_wp2
  go_loopw [10] (fun i wr => ∃ k : Nat, i = .int .i64 k ∧ k ≤ L.length ∧ Below w.heap.size w wr ∧ (∀ j (hj : j < L.length), j < k → wantB L[j] = true)) (fun i _ => L.length - (intOf i).toNat)
  case atStart => exact ⟨0, rfl, by omega, Below.refl _ _, fun j _ h => by omega⟩
  case round =>
    obtain ⟨k, rfl, hk, hb, hall⟩ := hrel
    have HA := hide hall
    have HBr := hide hb
    clear hall hb
    by_cases hlt : k < L.length
    · obtain ⟨b, off, rfl, hbw, -, hc⟩ := HG.out.full' (by omega)
      obtain ⟨hs, hc⟩ := hc k hlt
      obtain ⟨c0, c1, c2⟩ := hc.below HBr.out hbw
      have HQ : Hid (wantB L[k] = (nameB L[k].kd && nameB L[k].nm && decide (0 ≤ L[k].ve))) := rfl
      have s0 := hs.s0
      have s1 := hs.s1
      have HBA : ∀ o, Hid (Below w.heap.size w (wr.alloc o)) := fun o => HBr.out.alloc HBr.out.size o
      clear hc hs
      cases h1 : nameB L[k].kd with
      | false =>
        have HN : Hid (wantsB L = false) := by unfold Hid; rw [HE.out]; exact all_no hlt (by rw [HQ.out, h1]; rfl)
        go_wp2_with (go_at_call 110; refine (isName_any _ _ (by with_reducible assumption)).mono ?_; rintro e w' ⟨rfl, rfl⟩)
        go_ret
        exact ⟨ret_bool HN.out.symm, (HBA _).out⟩
      | true =>
        cases h2 : nameB L[k].nm with
        | false =>
          have HN : Hid (wantsB L = false) := by unfold Hid; rw [HE.out]; exact all_no hlt (by rw [HQ.out, h1, h2]; rfl)
          go_wp2_with (go_at_call 110; refine (isName_any _ _ (by with_reducible assumption)).mono ?_; rintro e w' ⟨rfl, rfl⟩)
          go_ret
          exact ⟨ret_bool HN.out.symm, (HBA _).out⟩
        | true =>
          by_cases h3 : 0 ≤ L[k].ve
          case neg =>
            have hv : decide (L[k].ve < 0) = true := by simp; omega
            have HN : Hid (wantsB L = false) := by unfold Hid; rw [HE.out]; exact all_no hlt (by rw [HQ.out, h1, h2, decide_eq_false h3]; rfl)
            go_wp2_with (go_at_call 110; refine (isName_any _ _ (by with_reducible assumption)).mono ?_; rintro e w' ⟨rfl, rfl⟩)
            go_ret
            exact ⟨ret_bool HN.out.symm, (HBA _).out⟩
          case pos =>
            have hv : decide (L[k].ve < 0) = false := by simp; omega
            have HT : Hid (wantB L[k] = true) := by unfold Hid; rw [HQ.out, h1, h2, decide_eq_true h3]; rfl
            go_wp2_with (go_at_call 110; refine (isName_any _ _ (by with_reducible assumption)).mono ?_; rintro e w' ⟨rfl, rfl⟩)
            go_roundw
            case rel => exact ⟨k + 1, by go_num, by omega, (HBA _).out, step_all HA.out hlt HT.out⟩
            case measure => simp [intOf]; omega
    · have HT : Hid (wantsB L = true) := by unfold Hid; rw [HE.out]; exact all_yes (fun i hi => HA.out i hi (by omega))
      go_wp2
      go_ret
      exact ⟨ret_bool HT.out.symm, HBr.out⟩

section
variable (sv mv tv va ha qa wv : Value) (Ss : List Sh) (Ms : List Md) (Ts : List Tm) (S : Sl) (w : World)

set_option maxRecDepth 20000 in
set_option maxHeartbeats 4000000 in
theorem slipSound_any (hl : LawAt 0 w sv mv tv Ss Ms Ts) (h : SlipAt 0 w va ha qa wv S) :
    Calls Tryz.prog 83 #[.agg #[sv, mv, tv], .agg #[.string S.dr, .string S.ak.who, .int .i64 S.ak.verb, .string S.ak.kd, .string S.ak.nm, .string S.ak.tm, va, ha, .int .i64 S.ak.seen, .string S.ak.hold, .string S.ak.tw, qa, .string S.ak.rk, .string S.ak.rt, .string S.ak.rp, .int .i64 S.ak.num, .int .i64 S.gn, wv]] w fun e w' => e = .returned (.bool (slipB Ss Ts S)) ∧ Below w.heap.size w w' := by
  have HI : Hid (slipB Ss Ts S = (nameB S.dr && (askB Ss Ts S.ak && (decide (0 ≤ S.gn) && wantsB S.ws)))) := rfl
  have HL := hide hl
  have HA := hide h
  obtain ⟨sa, sc, rfl⟩ := hl.shs.form
  obtain ⟨ma, mc, rfl⟩ := hl.mds.form
  obtain ⟨ta, tc, rfl⟩ := hl.tms.form
  obtain ⟨a0, k0, rfl⟩ := h.ak.vs.at.form'
  obtain ⟨a1, k1, rfl⟩ := h.ak.hs.at.form'
  obtain ⟨a2, k2, rfl⟩ := h.ak.vb.form
  obtain ⟨a3, k3, rfl⟩ := h.ws.form
  have sn1 : S.dr.size ≤ maxLen := h.sz
  clear hl h
  go_enter Tryz.func83, Tryz.ntmps83
  cases hn : nameB S.dr with
  | false =>
    have HE : Hid (slipB Ss Ts S = false) := by unfold Hid; rw [HI.out, hn]; rfl
    go_wp2_with (go_at_call 110; refine (isName_any _ _ (by with_reducible assumption)).mono ?_; rintro e w' ⟨rfl, rfl⟩)
    go_ret
    exact ⟨ret_bool HE.out.symm, (one_al w _).alloc (by simp) _⟩
  | true =>
  go_wp2_with (go_at_call 110; refine (isName_any _ _ (by with_reducible assumption)).mono ?_; rintro e w' ⟨rfl, rfl⟩)
  generalize hWa : World.alloc (w.alloc _) _ = Wa
  have HB0 : Hid (Below w.heap.size w Wa) := by rw [← hWa]; exact (one_al w _).alloc (by simp) _
  have FA0 : Hid (Box Wa w.heap.size #[.slice sa Ss.length sc, .slice ma Ms.length mc, .slice ta Ts.length tc]) := by rw [← hWa]; exact (Box.new _ _ _ _ rfl).on (one_al _ _)
  have FB0 : Hid (Box Wa (w.heap.size + 1) #[.string S.dr, .string S.ak.who, .int .i64 S.ak.verb, .string S.ak.kd, .string S.ak.nm, .string S.ak.tm, .slice a0 S.ak.vs.length k0, .slice a1 S.ak.hs.length k1, .int .i64 S.ak.seen, .string S.ak.hold, .string S.ak.tw, .slice a2 S.ak.vb.length k2, .string S.ak.rk, .string S.ak.rt, .string S.ak.rp, .int .i64 S.ak.num, .int .i64 S.gn, .slice a3 S.ws.length k3]) := by rw [← hWa]; exact Box.new _ _ _ _ (by simp)
  clear hWa
  refine (askSound_any _ _ _ _ _ _ Ss Ms Ts S.ak _ (HL.out.below HB0.out) (HA.out.below HB0.out).ak).mono ?_
  rintro e w1 ⟨rfl, hb1⟩
  have HB1 : Hid (Below w.heap.size w w1) := bt HB0.out hb1
  have FB1 := hide (FB0.out.on hb1)
  clear hb1 FA0 FB0 HB0
  cases hq : askB Ss Ts S.ak with
  | false =>
    have HE : Hid (slipB Ss Ts S = false) := by unfold Hid; rw [HI.out, hn, hq]; rfl
    go_wp2
    go_ret
    exact ⟨ret_bool HE.out.symm, HB1.out⟩
  | true =>
  have c16 := FB1.out.cell 16
  have c17 := FB1.out.cell 17
  simp at c16 c17
  by_cases hg : 0 ≤ S.gn
  case neg =>
    have hv : decide (0 ≤ S.gn) = false := decide_eq_false hg
    have HE : Hid (slipB Ss Ts S = false) := by unfold Hid; rw [HI.out, hn, hq, hv]; rfl
    go_wp2
    go_ret
    exact ⟨ret_bool HE.out.symm, HB1.out⟩
  have hv : decide (0 ≤ S.gn) = true := decide_eq_true hg
  have HE : Hid (slipB Ss Ts S = wantsB S.ws) := by unfold Hid; rw [HI.out, hn, hq, hv]; rfl
  go_wp2_with fail
  clear c16 c17
  refine (implWants_any 0 _ S.ws _ (HA.out.below HB1.out).ws).mono ?_
  rintro e w2 ⟨rfl, hb2⟩
  have HB2 : Hid (Below w.heap.size w w2) := bt HB1.out hb2
  clear hb2
  go_wp2
  go_ret
  exact ⟨ret_bool HE.out.symm, HB2.out⟩

set_option maxRecDepth 20000 in
set_option maxHeartbeats 4000000 in
theorem l9SlipOk_any (hl : LawAt 0 w sv mv tv Ss Ms Ts) (h : SlipAt 0 w va ha qa wv S) :
    Calls Tryz.prog 79 #[.agg #[sv, mv, tv], .agg #[.string S.dr, .string S.ak.who, .int .i64 S.ak.verb, .string S.ak.kd, .string S.ak.nm, .string S.ak.tm, va, ha, .int .i64 S.ak.seen, .string S.ak.hold, .string S.ak.tw, qa, .string S.ak.rk, .string S.ak.rt, .string S.ak.rp, .int .i64 S.ak.num, .int .i64 S.gn, wv]] w fun e w' => e = .returned (.bool (slipB Ss Ts S)) ∧ Below w.heap.size w w' := by
  have HI : Hid (slipB Ss Ts S = (nameB S.dr && (askB Ss Ts S.ak && (decide (0 ≤ S.gn) && (decide (S.ws.length ≤ 8) && S.ws.all wantB))))) := rfl
  have HL := hide hl
  have HA := hide h
  obtain ⟨sa, sc, rfl⟩ := hl.shs.form
  obtain ⟨ma, mc, rfl⟩ := hl.mds.form
  obtain ⟨ta, tc, rfl⟩ := hl.tms.form
  obtain ⟨a0, k0, rfl⟩ := h.ak.vs.at.form'
  obtain ⟨a1, k1, rfl⟩ := h.ak.hs.at.form'
  obtain ⟨a2, k2, rfl⟩ := h.ak.vb.form
  obtain ⟨a3, k3, rfl⟩ := h.ws.form
  have sn1 : S.dr.size ≤ maxLen := h.sz
  clear hl h
  go_enter Tryz.func79, Tryz.ntmps79
  cases hn : nameB S.dr with
  | false =>
    have HE : Hid (slipB Ss Ts S = false) := by unfold Hid; rw [HI.out, hn]; rfl
    go_wp2_with (go_at_call 37; refine (nameOk_any _ _ (by with_reducible assumption)).mono ?_; rintro e w' ⟨rfl, rfl⟩)
    go_ret
    exact ⟨ret_bool HE.out.symm, (one_al w _).alloc (by simp) _⟩
  | true =>
  go_wp2_with (go_at_call 37; refine (nameOk_any _ _ (by with_reducible assumption)).mono ?_; rintro e w' ⟨rfl, rfl⟩)
  generalize hWa : World.alloc (w.alloc _) _ = Wa
  have HB0 : Hid (Below w.heap.size w Wa) := by rw [← hWa]; exact (one_al w _).alloc (by simp) _
  have FA0 : Hid (Box Wa w.heap.size #[.slice sa Ss.length sc, .slice ma Ms.length mc, .slice ta Ts.length tc]) := by rw [← hWa]; exact (Box.new _ _ _ _ rfl).on (one_al _ _)
  have FB0 : Hid (Box Wa (w.heap.size + 1) #[.string S.dr, .string S.ak.who, .int .i64 S.ak.verb, .string S.ak.kd, .string S.ak.nm, .string S.ak.tm, .slice a0 S.ak.vs.length k0, .slice a1 S.ak.hs.length k1, .int .i64 S.ak.seen, .string S.ak.hold, .string S.ak.tw, .slice a2 S.ak.vb.length k2, .string S.ak.rk, .string S.ak.rt, .string S.ak.rp, .int .i64 S.ak.num, .int .i64 S.gn, .slice a3 S.ws.length k3]) := by rw [← hWa]; exact Box.new _ _ _ _ (by simp)
  clear hWa
  refine (l8AskOk_any _ _ _ _ _ _ Ss Ms Ts S.ak _ (HL.out.below HB0.out) (HA.out.below HB0.out).ak).mono ?_
  rintro e w1 ⟨rfl, hb1⟩
  have HB1 : Hid (Below w.heap.size w w1) := bt HB0.out hb1
  have FB1 := hide (FB0.out.on hb1)
  clear hb1 FA0 FB0 HB0
  cases hq : askB Ss Ts S.ak with
  | false =>
    have HE : Hid (slipB Ss Ts S = false) := by unfold Hid; rw [HI.out, hn, hq]; rfl
    go_wp2
    go_ret
    exact ⟨ret_bool HE.out.symm, HB1.out⟩
  | true =>
  have c16 := FB1.out.cell 16
  have c17 := FB1.out.cell 17
  simp at c16 c17
  by_cases hg : 0 ≤ S.gn
  case neg =>
    have hv : decide (S.gn < 0) = true := by simp; omega
    have HE : Hid (slipB Ss Ts S = false) := by unfold Hid; rw [HI.out, hn, hq, decide_eq_false hg]; rfl
    go_wp2
    go_ret
    exact ⟨ret_bool HE.out.symm, HB1.out⟩
  have hv : decide (S.gn < 0) = false := by simp; omega
  by_cases h8 : S.ws.length ≤ 8
  case neg =>
    have hgt : decide ((8 : Int) < (S.ws.length : Int)) = true := by simp; omega
    have HE : Hid (slipB Ss Ts S = false) := by unfold Hid; rw [HI.out, hn, hq, decide_eq_true hg, decide_eq_false h8]; rfl
    go_wp2
    go_ret
    exact ⟨ret_bool HE.out.symm, HB1.out⟩
  have hgt : decide ((8 : Int) < (S.ws.length : Int)) = false := by simp; omega
  have HE : Hid (slipB Ss Ts S = S.ws.all wantB) := by unfold Hid; rw [HI.out, hn, hq, decide_eq_true hg, decide_eq_true h8]; rfl
  go_wp2
  clear c16 c17
  go_loopw [5] (fun i wr => ∃ k : Nat, i = .int .i64 k ∧ k ≤ S.ws.length ∧ Below w.heap.size w wr ∧ Box wr (w.heap.size + 1) #[.string S.dr, .string S.ak.who, .int .i64 S.ak.verb, .string S.ak.kd, .string S.ak.nm, .string S.ak.tm, .slice a0 S.ak.vs.length k0, .slice a1 S.ak.hs.length k1, .int .i64 S.ak.seen, .string S.ak.hold, .string S.ak.tw, .slice a2 S.ak.vb.length k2, .string S.ak.rk, .string S.ak.rt, .string S.ak.rp, .int .i64 S.ak.num, .int .i64 S.gn, .slice a3 S.ws.length k3] ∧ (∀ j (hj : j < S.ws.length), j < k → wantB S.ws[j] = true)) (fun i _ => S.ws.length - (intOf i).toNat)
  case atStart => exact ⟨0, rfl, by omega, HB1.out, FB1.out, fun j _ h => by omega⟩
  case round =>
    obtain ⟨k, rfl, hk, hb, hx, hall⟩ := hrel
    have HAL := hide hall
    have HBr := hide hb
    have HX := hide hx
    have x17 := hx.cell 17
    simp at x17
    clear hall hb hx
    by_cases hlt : k < S.ws.length
    · obtain ⟨b, off, rfl, hbw, -, hc⟩ := HA.out.ws.full' (by omega)
      obtain ⟨hs, hc⟩ := hc k hlt
      obtain ⟨c0, c1, c2⟩ := hc.below HBr.out hbw
      have HQ : Hid (wantB S.ws[k] = (nameB S.ws[k].kd && nameB S.ws[k].nm && decide (0 ≤ S.ws[k].ve))) := rfl
      have s0 := hs.s0
      have s1 := hs.s1
      clear hc hs
      cases h1 : nameB S.ws[k].kd with
      | false =>
        have HN : Hid (slipB Ss Ts S = false) := by unfold Hid; rw [HE.out]; exact all_no hlt (by rw [HQ.out, h1]; rfl)
        go_wp2_with (go_at_call 37; refine (nameOk_any _ _ (by with_reducible assumption)).mono ?_; rintro e w' ⟨rfl, rfl⟩)
        go_ret
        exact ⟨ret_bool HN.out.symm, HBr.out⟩
      | true =>
        cases h2 : nameB S.ws[k].nm with
        | false =>
          have HN : Hid (slipB Ss Ts S = false) := by unfold Hid; rw [HE.out]; exact all_no hlt (by rw [HQ.out, h1, h2]; rfl)
          go_wp2_with (go_at_call 37; refine (nameOk_any _ _ (by with_reducible assumption)).mono ?_; rintro e w' ⟨rfl, rfl⟩)
          go_ret
          exact ⟨ret_bool HN.out.symm, HBr.out⟩
        | true =>
          by_cases h3 : 0 ≤ S.ws[k].ve
          case neg =>
            have hv : decide (S.ws[k].ve < 0) = true := by simp; omega
            have HN : Hid (slipB Ss Ts S = false) := by unfold Hid; rw [HE.out]; exact all_no hlt (by rw [HQ.out, h1, h2, decide_eq_false h3]; rfl)
            go_wp2_with (go_at_call 37; refine (nameOk_any _ _ (by with_reducible assumption)).mono ?_; rintro e w' ⟨rfl, rfl⟩)
            go_ret
            exact ⟨ret_bool HN.out.symm, HBr.out⟩
          case pos =>
            have hv : decide (S.ws[k].ve < 0) = false := by simp; omega
            have HT : Hid (wantB S.ws[k] = true) := by unfold Hid; rw [HQ.out, h1, h2, decide_eq_true h3]; rfl
            go_wp2_with (go_at_call 37; refine (nameOk_any _ _ (by with_reducible assumption)).mono ?_; rintro e w' ⟨rfl, rfl⟩)
            go_roundw
            case rel => exact ⟨k + 1, by go_num, by omega, HBr.out, HX.out, step_all HAL.out hlt HT.out⟩
            case measure => simp [intOf]; omega
    · have HT : Hid (slipB Ss Ts S = true) := by unfold Hid; rw [HE.out]; exact all_yes (fun i hi => HAL.out i hi (by omega))
      go_wp2
      go_ret
      exact ⟨ret_bool HT.out.symm, HBr.out⟩

set_option maxRecDepth 20000 in
set_option maxHeartbeats 4000000 in
theorem specSlip_any (hl : LawAt 0 w sv mv tv Ss Ms Ts) (h : SlipAt 0 w va ha qa wv S) :
    Calls Tryz.prog 23 #[.agg #[sv, mv, tv], .agg #[.string S.dr, .string S.ak.who, .int .i64 S.ak.verb, .string S.ak.kd, .string S.ak.nm, .string S.ak.tm, va, ha, .int .i64 S.ak.seen, .string S.ak.hold, .string S.ak.tw, qa, .string S.ak.rk, .string S.ak.rt, .string S.ak.rp, .int .i64 S.ak.num, .int .i64 S.gn, wv]] w fun e w' => e = .returned (.bool (lawB Ss Ms Ts && slipB Ss Ts S)) ∧ Below w.heap.size w w' := by
  have HL := hide hl
  have HA := hide h
  obtain ⟨sa, sc, rfl⟩ := hl.shs.form
  obtain ⟨ma, mc, rfl⟩ := hl.mds.form
  obtain ⟨ta, tc, rfl⟩ := hl.tms.form
  obtain ⟨a0, k0, rfl⟩ := h.ak.vs.at.form'
  obtain ⟨a1, k1, rfl⟩ := h.ak.hs.at.form'
  obtain ⟨a2, k2, rfl⟩ := h.ak.vb.form
  obtain ⟨a3, k3, rfl⟩ := h.ws.form
  have sn1 : S.dr.size ≤ maxLen := h.sz
  clear hl h
  go_enter Tryz.func23, Tryz.ntmps23
  go_wp2_with fail
  generalize hWa : World.alloc (w.alloc _) _ = Wa
  have HB0 : Hid (Below w.heap.size w Wa) := by rw [← hWa]; exact (one_al w _).alloc (by simp) _
  have FA0 : Hid (Box Wa w.heap.size #[.slice sa Ss.length sc, .slice ma Ms.length mc, .slice ta Ts.length tc]) := by rw [← hWa]; exact (Box.new _ _ _ _ rfl).on (one_al _ _)
  have FB0 : Hid (Box Wa (w.heap.size + 1) #[.string S.dr, .string S.ak.who, .int .i64 S.ak.verb, .string S.ak.kd, .string S.ak.nm, .string S.ak.tm, .slice a0 S.ak.vs.length k0, .slice a1 S.ak.hs.length k1, .int .i64 S.ak.seen, .string S.ak.hold, .string S.ak.tw, .slice a2 S.ak.vb.length k2, .string S.ak.rk, .string S.ak.rt, .string S.ak.rp, .int .i64 S.ak.num, .int .i64 S.gn, .slice a3 S.ws.length k3]) := by rw [← hWa]; exact Box.new _ _ _ _ (by simp)
  clear hWa
  refine (specLawOk_any 0 _ _ _ Ss Ms Ts _ (HL.out.below HB0.out)).mono ?_
  rintro e w1 ⟨rfl, hb1⟩
  have HB1 : Hid (Below w.heap.size w w1) := bt HB0.out hb1
  have FA1 := hide (FA0.out.on hb1)
  have FB1 := hide (FB0.out.on hb1)
  clear hb1 FA0 FB0 HB0
  cases q1 : lawB Ss Ms Ts with
  | false =>
    go_wp2
    go_ret
    exact ⟨ret_bool (by rw [q1]; rfl), HB1.out⟩
  | true =>
    have g0 := FA1.out.cell
    have g1 := FB1.out.cell
    go_wp2_with fail
    clear g0 g1
    refine (l9SlipOk_any _ _ _ _ _ _ _ Ss Ms Ts S _ (HL.out.below HB1.out) (HA.out.below HB1.out)).mono ?_
    rintro e w2 ⟨rfl, hb2⟩
    have HB2 : Hid (Below w.heap.size w w2) := bt HB1.out hb2
    go_wp2
    go_ret
    exact ⟨ret_bool (by rw [q1]; rfl), HB2.out⟩

set_option maxRecDepth 20000 in
set_option maxHeartbeats 4000000 in
theorem implSlip_any (hl : LawAt 0 w sv mv tv Ss Ms Ts) (h : SlipAt 0 w va ha qa wv S) :
    Calls Tryz.prog 25 #[.agg #[sv, mv, tv], .agg #[.string S.dr, .string S.ak.who, .int .i64 S.ak.verb, .string S.ak.kd, .string S.ak.nm, .string S.ak.tm, va, ha, .int .i64 S.ak.seen, .string S.ak.hold, .string S.ak.tw, qa, .string S.ak.rk, .string S.ak.rt, .string S.ak.rp, .int .i64 S.ak.num, .int .i64 S.gn, wv]] w fun e w' => e = .returned (.bool (lawB Ss Ms Ts && slipB Ss Ts S)) ∧ Below w.heap.size w w' := by
  have HL := hide hl
  have HA := hide h
  obtain ⟨sa, sc, rfl⟩ := hl.shs.form
  obtain ⟨ma, mc, rfl⟩ := hl.mds.form
  obtain ⟨ta, tc, rfl⟩ := hl.tms.form
  obtain ⟨a0, k0, rfl⟩ := h.ak.vs.at.form'
  obtain ⟨a1, k1, rfl⟩ := h.ak.hs.at.form'
  obtain ⟨a2, k2, rfl⟩ := h.ak.vb.form
  obtain ⟨a3, k3, rfl⟩ := h.ws.form
  have sn1 : S.dr.size ≤ maxLen := h.sz
  clear hl h
  go_enter Tryz.func25, Tryz.ntmps25
  go_wp2_with fail
  generalize hWa : World.alloc (w.alloc _) _ = Wa
  have HB0 : Hid (Below w.heap.size w Wa) := by rw [← hWa]; exact (one_al w _).alloc (by simp) _
  have FA0 : Hid (Box Wa w.heap.size #[.slice sa Ss.length sc, .slice ma Ms.length mc, .slice ta Ts.length tc]) := by rw [← hWa]; exact (Box.new _ _ _ _ rfl).on (one_al _ _)
  have FB0 : Hid (Box Wa (w.heap.size + 1) #[.string S.dr, .string S.ak.who, .int .i64 S.ak.verb, .string S.ak.kd, .string S.ak.nm, .string S.ak.tm, .slice a0 S.ak.vs.length k0, .slice a1 S.ak.hs.length k1, .int .i64 S.ak.seen, .string S.ak.hold, .string S.ak.tw, .slice a2 S.ak.vb.length k2, .string S.ak.rk, .string S.ak.rt, .string S.ak.rp, .int .i64 S.ak.num, .int .i64 S.gn, .slice a3 S.ws.length k3]) := by rw [← hWa]; exact Box.new _ _ _ _ (by simp)
  clear hWa
  refine (implLawOk_any 0 _ _ _ Ss Ms Ts _ (HL.out.below HB0.out)).mono ?_
  rintro e w1 ⟨rfl, hb1⟩
  have HB1 : Hid (Below w.heap.size w w1) := bt HB0.out hb1
  have FA1 := hide (FA0.out.on hb1)
  have FB1 := hide (FB0.out.on hb1)
  clear hb1 FA0 FB0 HB0
  cases q1 : lawB Ss Ms Ts with
  | false =>
    go_wp2
    go_ret
    exact ⟨ret_bool (by rw [q1]; rfl), HB1.out⟩
  | true =>
    have g0 := FA1.out.cell
    have g1 := FB1.out.cell
    go_wp2_with fail
    clear g0 g1
    refine (slipSound_any _ _ _ _ _ _ _ Ss Ms Ts S _ (HL.out.below HB1.out) (HA.out.below HB1.out)).mono ?_
    rintro e w2 ⟨rfl, hb2⟩
    have HB2 : Hid (Below w.heap.size w w2) := bt HB1.out hb2
    go_wp2
    go_ret
    exact ⟨ret_bool (by rw [q1]; rfl), HB2.out⟩
end
end Go.Proofs.YtfohnageehneoaaGreat

