
import Derived.Test.YthfdfdlojfdckaaGreatVAQ6
namespace Go.Proofs.YthfdfdlojfdckaaGreat
open Go.RowKit Go.Deep
section
variable (sv mv tv va ha qa : Value) (Ss : List Sh) (Ms : List Md) (Ts : List Tm) (A : Ak) (w : World)

set_option maxRecDepth 20000 in
set_option maxHeartbeats 8000000 in
theorem sdeed4 (hl : LawAt 0 w sv mv tv Ss Ms Ts) (h : AskAt 0 w va ha qa A) (hv : A.verb = 4) (hn : nameB A.who = true) :
    Calls Tryz.prog 48 #[.agg #[sv, mv, tv], .agg #[.string A.who, .int .i64 A.verb, .string A.kd, .string A.nm, .string A.tm, va, ha, .int .i64 A.seen, .string A.hold, .string A.tw, qa, .string A.rk, .string A.rt, .string A.rp, .int .i64 A.num]] w fun e w' => e = .returned (.bool (use4 Ss A && no4 A)) ∧ Below w.heap.size w w' := by
  have HL := hide hl
  have HA := hide h
  have HZ := hide h.sz
  obtain ⟨a, cap, rfl⟩ := hl.shs.form
  obtain ⟨a1, cap1, rfl⟩ := hl.mds.form
  obtain ⟨a2, cap2, rfl⟩ := hl.tms.form
  obtain ⟨b0, k0, rfl⟩ := h.vs.at.form'
  obtain ⟨b1, k1, rfl⟩ := h.hs.at.form'
  obtain ⟨b2, k2, rfl⟩ := h.vb.form
  clear hl h
  have hin : inB 1 6 A.verb = true := by rw [hv]; decide
  have hle : decide (A.verb ≤ 4) = true := by rw [hv]; rfl
  have e1 : (A.verb == 1) = false := by rw [hv]; rfl
  have e2 : (A.verb == 2) = false := by rw [hv]; rfl
  have e3 : (A.verb == 3) = false := by rw [hv]; rfl
  have e4 : (A.verb == 4) = true := by rw [hv]; rfl
  have HV := hide hv
  clear hv
  have sn1 : A.who.size ≤ maxLen := HZ.out.who
  have sn2 : A.nm.size ≤ maxLen := HZ.out.nm
  have sn3 : A.hold.size ≤ maxLen := HZ.out.hold
  have sn4 : A.tw.size ≤ maxLen := HZ.out.tw
  go_enter Tryz.func48, Tryz.ntmps48
  go_wp2_with (first | (go_at_call 88; refine (nameOk_any _ _ (by with_reducible assumption)).mono ?_; rintro e w' ⟨rfl, rfl⟩) | (go_at_call 62; refine (in_any _ _ _ _).mono ?_; rintro e w' ⟨rfl, rfl⟩))
  generalize hWa : World.alloc (w.alloc _) _ = Wa
  have HB0 : Hid (Below w.heap.size w Wa) := by rw [← hWa]; exact (one_al w _).alloc (by simp) _
  have FA0 : Hid (Box Wa w.heap.size #[.slice a Ss.length cap, .slice a1 Ms.length cap1, .slice a2 Ts.length cap2]) := by rw [← hWa]; exact (Box.new _ _ _ _ rfl).on (one_al _ _)
  have FB0 : Hid (Box Wa (w.heap.size + 1) #[.string A.who, .int .i64 A.verb, .string A.kd, .string A.nm, .string A.tm, .slice b0 A.vs.length k0, .slice b1 A.hs.length k1, .int .i64 A.seen, .string A.hold, .string A.tw, .slice b2 A.vb.length k2, .string A.rk, .string A.rt, .string A.rp, .int .i64 A.num]) := by rw [← hWa]; exact Box.new _ _ _ _ (by simp)
  clear hWa
  refine (rest4_any _ _ _ _ _ _ A _ HV.out).mono ?_
  rintro e w1 ⟨rfl, hb1⟩
  have HB1 : Hid (Below w.heap.size w w1) := bt HB0.out hb1
  have FA1 := hide (FA0.out.on hb1)
  have FB1 := hide (FB0.out.on hb1)
  clear hb1 FA0 FB0 HB0
  go_wp2_with fail
  refine (l8Nothing_any _ _ _ _ _ _ _ _ _ _ _ _ _ _ _ _ _ _ _ _ _ _).mono ?_
  rintro e w2 ⟨rfl, hb2⟩
  have HB2 : Hid (Below w.heap.size w w2) := bt HB1.out hb2
  have FA2 := hide (FA1.out.on hb2)
  have FB2 := hide (FB1.out.on hb2)
  clear hb2 FA1 FB1 HB1
  cases qn : noB ⟨#[]⟩ ⟨#[]⟩ A.tm A.vs.length A.hs.length A.seen ⟨#[]⟩ A.tw A.vb.length A.rk A.rt A.rp A.num with
  | false =>
    go_wp2
    go_ret
    exact ⟨ret_bool (by rw [show no4 A = false from qn, Bool.and_false]), HB2.out⟩
  | true =>
    have HNO : Hid (no4 A = true) := qn
    have g0 := FA2.out.cell
    have g1 := FB2.out.cell
    go_wp2_with (first | (go_at_call 88; refine (nameOk_any _ _ (by with_reducible assumption)).mono ?_; rintro e w' ⟨rfl, rfl⟩) | (go_at_call 62; refine (in_any _ _ _ _).mono ?_; rintro e w' ⟨rfl, rfl⟩))
    clear g0 g1
    refine (l1ShapeK_any 0 _ Ss A.kd _ (HL.out.below HB2.out).shs).mono ?_
    rintro e w3 ⟨rfl, hsh⟩
    have g0 := FA2.out.cell
    have g1 := FB2.out.cell
    rcases hsh with ⟨k, hk, rfl, hx⟩ | ⟨rfl, hx⟩
    case inr =>
      have HR : Hid (use4 Ss A = false) := by unfold Hid use4; rw [names_none hx]; rfl
      go_wp2_with (first | (go_at_call 88; refine (nameOk_any _ _ (by with_reducible assumption)).mono ?_; rintro e w' ⟨rfl, rfl⟩) | (go_at_call 62; refine (in_any _ _ _ _).mono ?_; rintro e w' ⟨rfl, rfl⟩))
      go_ret
      exact ⟨ret_bool (by rw [HR.out, Bool.false_and]), HB2.out⟩
    have hx' : shOf Ss A.kd = some Ss[k] := hx.trans (List.getElem?_eq_getElem hk)
    have hk0 : decide ((k : Int) < 0) = false := by simp
    cases qa : nameB A.nm with
    | false =>
      have HR : Hid (use4 Ss A = false) := by unfold Hid use4; rw [names_some hx', qa]; rfl
      go_wp2_with (first | (go_at_call 88; refine (nameOk_any _ _ (by with_reducible assumption)).mono ?_; rintro e w' ⟨rfl, rfl⟩) | (go_at_call 62; refine (in_any _ _ _ _).mono ?_; rintro e w' ⟨rfl, rfl⟩))
      go_ret
      exact ⟨ret_bool (by rw [HR.out, Bool.false_and]), HB2.out⟩
    | true =>
      have HNM : Hid (namesB Ss A = true) := by unfold Hid; rw [names_some hx', qa]
      have HVL : Hid (valsB Ss A = decide (A.vs.length = Ss[k].fields.length)) := vals_some hx'
      clear hx hx'
      have HR : Hid ((use4 Ss A && no4 A) = nameB A.hold) := by unfold Hid use4; rw [HNM.out, HNO.out]; simp
      go_wp2_with (first | (go_at_call 88; refine (nameOk_any _ _ (by with_reducible assumption)).mono ?_; rintro e w' ⟨rfl, rfl⟩) | (go_at_call 62; refine (in_any _ _ _ _).mono ?_; rintro e w' ⟨rfl, rfl⟩))
      go_ret
      exact ⟨ret_bool HR.out.symm, HB2.out⟩
end
end Go.Proofs.YthfdfdlojfdckaaGreat
