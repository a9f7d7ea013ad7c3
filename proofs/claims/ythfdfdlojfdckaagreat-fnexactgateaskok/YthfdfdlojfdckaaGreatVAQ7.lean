
import Derived.Test.YthfdfdlojfdckaaGreatVAQ6a
import Derived.Test.YthfdfdlojfdckaaGreatVAQ6b
import Derived.Test.YthfdfdlojfdckaaGreatVAQ6c
import Derived.Test.YthfdfdlojfdckaaGreatVAQ6d
import Derived.Test.YthfdfdlojfdckaaGreatVAQ6e
import Derived.Test.YthfdfdlojfdckaaGreatVAQ6f
namespace Go.Proofs.YthfdfdlojfdckaaGreat
open Go.RowKit Go.Deep
section
variable (sv mv tv va ha qa : Value) (Ss : List Sh) (Ms : List Md) (Ts : List Tm) (A : Ak) (w : World)

set_option maxRecDepth 20000 in
set_option maxHeartbeats 4000000 in
theorem l8AskOk_any (hl : LawAt 0 w sv mv tv Ss Ms Ts) (h : AskAt 0 w va ha qa A) :
    Calls Tryz.prog 48 #[.agg #[sv, mv, tv], .agg #[.string A.who, .int .i64 A.verb, .string A.kd, .string A.nm, .string A.tm, va, ha, .int .i64 A.seen, .string A.hold, .string A.tw, qa, .string A.rk, .string A.rt, .string A.rp, .int .i64 A.num]] w fun e w' => e = .returned (.bool (askB Ss Ts A)) ∧ Below w.heap.size w w' := by
  cases hn : nameB A.who with
  | false =>
    rw [ask_name hn]
    have HL := hide hl
    have HA := hide h
    have HZ := hide h.sz
    obtain ⟨a, cap, rfl⟩ := hl.shs.form
    obtain ⟨a1, cap1, rfl⟩ := hl.mds.form
    obtain ⟨a2, cap2, rfl⟩ := hl.tms.form
    obtain ⟨b0, k0, rfl⟩ := h.vs.at.form'
    obtain ⟨b1, k1, rfl⟩ := h.hs.at.form'
    obtain ⟨b2, k2, rfl⟩ := h.vb.form
    clear hl h
    have sn1 : A.who.size ≤ maxLen := HZ.out.who
    go_enter Tryz.func48, Tryz.ntmps48
    go_wp2_with (first | (go_at_call 88; refine (nameOk_any _ _ (by with_reducible assumption)).mono ?_; rintro e w' ⟨rfl, rfl⟩) | (go_at_call 62; refine (in_any _ _ _ _).mono ?_; rintro e w' ⟨rfl, rfl⟩))
    go_ret
    exact ⟨rfl, (one_al w _).alloc (by simp) _⟩
  | true =>
    cases hin : inB 1 6 A.verb with
    | false =>
      rw [ask_out hin]
      have HL := hide hl
      have HA := hide h
      have HZ := hide h.sz
      obtain ⟨a, cap, rfl⟩ := hl.shs.form
      obtain ⟨a1, cap1, rfl⟩ := hl.mds.form
      obtain ⟨a2, cap2, rfl⟩ := hl.tms.form
      obtain ⟨b0, k0, rfl⟩ := h.vs.at.form'
      obtain ⟨b1, k1, rfl⟩ := h.hs.at.form'
      obtain ⟨b2, k2, rfl⟩ := h.vb.form
      clear hl h
      have sn1 : A.who.size ≤ maxLen := HZ.out.who
      go_enter Tryz.func48, Tryz.ntmps48
      go_wp2_with (first | (go_at_call 88; refine (nameOk_any _ _ (by with_reducible assumption)).mono ?_; rintro e w' ⟨rfl, rfl⟩) | (go_at_call 62; refine (in_any _ _ _ _).mono ?_; rintro e w' ⟨rfl, rfl⟩))
      go_ret
      exact ⟨rfl, (one_al w _).alloc (by simp) _⟩
    | true =>
      rcases verb_in hin with hv | hv | hv | hv | hv | hv
      · rw [ask_1 hv, hn, Bool.true_and]; exact sdeed1 sv mv tv va ha qa Ss Ms Ts A w hl h hv hn
      · rw [ask_2 hv, hn, Bool.true_and]; exact sdeed2 sv mv tv va ha qa Ss Ms Ts A w hl h hv hn
      · rw [ask_3 hv, hn, Bool.true_and]; exact sdeed3 sv mv tv va ha qa Ss Ms Ts A w hl h hv hn
      · rw [ask_4 hv, hn, Bool.true_and]; exact sdeed4 sv mv tv va ha qa Ss Ms Ts A w hl h hv hn
      · rw [ask_5 hv, hn, Bool.true_and]; exact sdeed5 sv mv tv va ha qa Ss Ms Ts A w hl h hv hn
      · rw [ask_6 hv, hn, Bool.true_and]; exact sdeed6 sv mv tv va ha qa Ss Ms Ts A w hl h hv hn

set_option maxRecDepth 20000 in
set_option maxHeartbeats 4000000 in
theorem specAsk_any (hl : LawAt 0 w sv mv tv Ss Ms Ts) (h : AskAt 0 w va ha qa A) :
    Calls Tryz.prog 16 #[.agg #[sv, mv, tv], .agg #[.string A.who, .int .i64 A.verb, .string A.kd, .string A.nm, .string A.tm, va, ha, .int .i64 A.seen, .string A.hold, .string A.tw, qa, .string A.rk, .string A.rt, .string A.rp, .int .i64 A.num]] w fun e w' => e = .returned (.bool (lawB Ss Ms Ts && askB Ss Ts A)) ∧ Below w.heap.size w w' := by
  have HL := hide hl
  have HA := hide h
  have HZ := hide h.sz
  obtain ⟨a, cap, rfl⟩ := hl.shs.form
  obtain ⟨a1, cap1, rfl⟩ := hl.mds.form
  obtain ⟨a2, cap2, rfl⟩ := hl.tms.form
  obtain ⟨b0, k0, rfl⟩ := h.vs.at.form'
  obtain ⟨b1, k1, rfl⟩ := h.hs.at.form'
  obtain ⟨b2, k2, rfl⟩ := h.vb.form
  clear hl h
  go_enter Tryz.func16, Tryz.ntmps16
  go_wp2_with fail
  generalize hWa : World.alloc (w.alloc _) _ = Wa
  have HB0 : Hid (Below w.heap.size w Wa) := by rw [← hWa]; exact (one_al w _).alloc (by simp) _
  have FA0 : Hid (Box Wa w.heap.size #[.slice a Ss.length cap, .slice a1 Ms.length cap1, .slice a2 Ts.length cap2]) := by rw [← hWa]; exact (Box.new _ _ _ _ rfl).on (one_al _ _)
  have FB0 : Hid (Box Wa (w.heap.size + 1) #[.string A.who, .int .i64 A.verb, .string A.kd, .string A.nm, .string A.tm, .slice b0 A.vs.length k0, .slice b1 A.hs.length k1, .int .i64 A.seen, .string A.hold, .string A.tw, .slice b2 A.vb.length k2, .string A.rk, .string A.rt, .string A.rp, .int .i64 A.num]) := by rw [← hWa]; exact Box.new _ _ _ _ (by simp)
  clear hWa
  refine (specLawOk_any 0 _ _ _ Ss Ms Ts _ (HL.out.below HB0.out)).mono ?_
  rintro e w1 ⟨rfl, hb1⟩
  have HB1 : Hid (Below w.heap.size w w1) := bt HB0.out hb1
  have FA1 := hide (FA0.out.on hb1)
  have FB1 := hide (FB0.out.on hb1)
  clear hb1 FA0 FB0 HB0
  cases q1 : lawB Ss Ms Ts with
  | false =>
    go_wp2
    go_ret
    exact ⟨ret_bool (by rw [q1]; rfl), HB1.out⟩
  | true =>
    have g0 := FA1.out.cell
    have g1 := FB1.out.cell
    go_wp2_with fail
    clear g0 g1
    refine (l8AskOk_any _ _ _ _ _ _ Ss Ms Ts A _ (HL.out.below HB1.out) (HA.out.below HB1.out)).mono ?_
    rintro e w2 ⟨rfl, hb2⟩
    have HB2 : Hid (Below w.heap.size w w2) := bt HB1.out hb2
    go_wp2
    go_ret
    exact ⟨ret_bool (by rw [q1]; rfl), HB2.out⟩
end
end Go.Proofs.YthfdfdlojfdckaaGreat
