import Derived.Test.YthfdfdlojfdckaaGreatVAQ2
import Derived.Test.YthfdfdlojfdckaaGreatVAK
import Derived.Test.YthfdfdlojfdckaaGreatVDA
import Derived.Test.YthfdfdlojfdckaaGreatVLA
import Derived.Test.YthfdfdlojfdckaaGreatVB1
import Derived.Test.YthfdfdlojfdckaaGreatVTA
import Derived.Test.YthfdfdlojfdckaaGreatVA1
import Derived.Test.YthfdfdlojfdckaaGreatVTB
import Derived.Test.YthfdfdlojfdckaaGreatVTD
namespace Go.Proofs.YthfdfdlojfdckaaGreat
open Go.RowKit Go.Deep
section
variable (sv mv tv va ha qa : Value) (Ss : List Sh) (Ms : List Md) (Ts : List Tm) (A : Ak) (w : World)

set_option maxRecDepth 20000 in
set_option maxHeartbeats 4000000 in
theorem uses1_any (hl : LawAt 0 w sv mv tv Ss Ms Ts) (h : AskAt 0 w va ha qa A) :
    Calls Tryz.prog 256 #[.agg #[], .agg #[sv, mv, tv], .agg #[.string A.who, .int .i64 A.verb, .string A.kd, .string A.nm, .string A.tm, va, ha, .int .i64 A.seen, .string A.hold, .string A.tw, qa, .string A.rk, .string A.rt, .string A.rp, .int .i64 A.num]] w fun e w' => e = .returned (.bool (use1 Ss Ts A)) ∧ Below w.heap.size w w' := by
  have HL := hide hl
  have HA := hide h
  have HZ := hide h.sz
  obtain ⟨a, cap, rfl⟩ := hl.shs.form
  obtain ⟨a1, cap1, rfl⟩ := hl.mds.form
  obtain ⟨a2, cap2, rfl⟩ := hl.tms.form
  obtain ⟨b0, k0, rfl⟩ := h.vs.at.form'
  obtain ⟨b1, k1, rfl⟩ := h.hs.at.form'
  obtain ⟨b2, k2, rfl⟩ := h.vb.form
  clear hl h
  go_enter Tryz.func256, Tryz.ntmps256
  go_wp2_with fail
  generalize hWa : World.alloc (World.alloc (w.alloc _) _) _ = Wa
  have HB0 : Hid (Below w.heap.size w Wa) := by rw [← hWa]; exact ((one_al w _).alloc (by simp) _).alloc (by simp; omega) _
  have FA0 : Hid (Box Wa (w.heap.size + 1) #[.slice a Ss.length cap, .slice a1 Ms.length cap1, .slice a2 Ts.length cap2]) := by rw [← hWa]; exact (Box.new _ _ _ _ (by simp)).on (one_al _ _)
  have FB0 : Hid (Box Wa (w.heap.size + 2) #[.string A.who, .int .i64 A.verb, .string A.kd, .string A.nm, .string A.tm, .slice b0 A.vs.length k0, .slice b1 A.hs.length k1, .int .i64 A.seen, .string A.hold, .string A.tw, .slice b2 A.vb.length k2, .string A.rk, .string A.rt, .string A.rp, .int .i64 A.num]) := by rw [← hWa]; exact Box.new _ _ _ _ (by simp)
  clear hWa
  refine (namesObject_any _ _ _ _ _ _ Ss Ms Ts A _ (HL.out.below HB0.out) (HA.out.below HB0.out)).mono ?_
  rintro e w1 ⟨rfl, hb1⟩
  have HB1 : Hid (Below w.heap.size w w1) := bt HB0.out hb1
  have FA1 := hide (FA0.out.on hb1)
  have FB1 := hide (FB0.out.on hb1)
  clear hb1 FA0 FB0 HB0
  cases q0 : namesB Ss A with
  | false =>
    go_wp2
    go_ret
    exact ⟨ret_bool (by unfold use1; simp [q0]), HB1.out⟩
  | true =>
    have g0 := FA1.out.cell
    have g1 := FB1.out.cell
    go_wp2_with fail
    clear g0 g1
    refine (asksValues_any _ _ _ _ _ _ Ss Ms Ts A _ (HL.out.below HB1.out) (HA.out.below HB1.out)).mono ?_
    rintro e w2 ⟨rfl, hb2⟩
    have HB2 : Hid (Below w.heap.size w w2) := bt HB1.out hb2
    have FA2 := hide (FA1.out.on hb2)
    have FB2 := hide (FB1.out.on hb2)
    clear hb2 FA1 FB1 HB1
    cases q1 : valsB Ss A with
    | false =>
      go_wp2
      go_ret
      exact ⟨ret_bool (by unfold use1; simp [q0, q1]), HB2.out⟩
    | true =>
      have g0 := FA2.out.cell
      have g1 := FB2.out.cell
      go_wp2_with fail
      clear g0 g1
      refine (teamPlace_any 0 _ Ts A.tm _ (HL.out.below HB2.out).tms).mono ?_
      rintro e w3 ⟨rfl, hb3⟩
      have HB3 : Hid (Below w.heap.size w w3) := bt HB2.out hb3
      have FA3 := hide (FA2.out.on hb3)
      have FB3 := hide (FB2.out.on hb3)
      clear hb3 FA2 FB2 HB2
      have hp := place_geq Ts A.tm
      cases q2 : hasT Ts A.tm with
      | false =>
        rw [q2] at hp
        go_wp2
        go_ret
        exact ⟨ret_bool (by unfold use1; simp [q0, q1, q2]), HB3.out⟩
      | true =>
        rw [q2] at hp
        cases q3 : decide (A.hs.length ≤ 3) with
        | false =>
          have hd : decide ((A.hs.length : Int) ≤ 3) = false := by rw [← q3]; exact int_le3 _
          have g0 := FA3.out.cell
          have g1 := FB3.out.cell
          go_wp2
          go_ret
          exact ⟨ret_bool (by unfold use1; simp [q0, q1, q2, q3]), HB3.out⟩
        | true =>
          have hd3 : decide ((A.hs.length : Int) ≤ 3) = true := by rw [← q3]; exact int_le3 _
          have g0 := FA3.out.cell
          have g1 := FB3.out.cell
          go_wp2_with fail
          clear g0 g1
          refine (ascNames_any _ A.hs _ (HA.out.below HB3.out).hs.at).mono ?_
          rintro e w94 ⟨rfl, rfl⟩
          go_wp2
          go_ret
          exact ⟨ret_bool (by unfold use1; simp [q0, q1, q2, q3]), HB3.out⟩

set_option maxRecDepth 20000 in
set_option maxHeartbeats 4000000 in
theorem uses2_any (hl : LawAt 0 w sv mv tv Ss Ms Ts) (h : AskAt 0 w va ha qa A) :
    Calls Tryz.prog 262 #[.agg #[], .agg #[sv, mv, tv], .agg #[.string A.who, .int .i64 A.verb, .string A.kd, .string A.nm, .string A.tm, va, ha, .int .i64 A.seen, .string A.hold, .string A.tw, qa, .string A.rk, .string A.rt, .string A.rp, .int .i64 A.num]] w fun e w' => e = .returned (.bool (use2 Ss A)) ∧ Below w.heap.size w w' := by
  have HL := hide hl
  have HA := hide h
  have HZ := hide h.sz
  obtain ⟨a, cap, rfl⟩ := hl.shs.form
  obtain ⟨a1, cap1, rfl⟩ := hl.mds.form
  obtain ⟨a2, cap2, rfl⟩ := hl.tms.form
  obtain ⟨b0, k0, rfl⟩ := h.vs.at.form'
  obtain ⟨b1, k1, rfl⟩ := h.hs.at.form'
  obtain ⟨b2, k2, rfl⟩ := h.vb.form
  clear hl h
  go_enter Tryz.func262, Tryz.ntmps262
  go_wp2_with fail
  generalize hWa : World.alloc (World.alloc (w.alloc _) _) _ = Wa
  have HB0 : Hid (Below w.heap.size w Wa) := by rw [← hWa]; exact ((one_al w _).alloc (by simp) _).alloc (by simp; omega) _
  have FA0 : Hid (Box Wa (w.heap.size + 1) #[.slice a Ss.length cap, .slice a1 Ms.length cap1, .slice a2 Ts.length cap2]) := by rw [← hWa]; exact (Box.new _ _ _ _ (by simp)).on (one_al _ _)
  have FB0 : Hid (Box Wa (w.heap.size + 2) #[.string A.who, .int .i64 A.verb, .string A.kd, .string A.nm, .string A.tm, .slice b0 A.vs.length k0, .slice b1 A.hs.length k1, .int .i64 A.seen, .string A.hold, .string A.tw, .slice b2 A.vb.length k2, .string A.rk, .string A.rt, .string A.rp, .int .i64 A.num]) := by rw [← hWa]; exact Box.new _ _ _ _ (by simp)
  clear hWa
  refine (namesObject_any _ _ _ _ _ _ Ss Ms Ts A _ (HL.out.below HB0.out) (HA.out.below HB0.out)).mono ?_
  rintro e w1 ⟨rfl, hb1⟩
  have HB1 : Hid (Below w.heap.size w w1) := bt HB0.out hb1
  have FA1 := hide (FA0.out.on hb1)
  have FB1 := hide (FB0.out.on hb1)
  clear hb1 FA0 FB0 HB0
  cases q0 : namesB Ss A with
  | false =>
    go_wp2
    go_ret
    exact ⟨ret_bool (by unfold use2; simp [q0]), HB1.out⟩
  | true =>
    have g0 := FA1.out.cell
    have g1 := FB1.out.cell
    go_wp2_with fail
    clear g0 g1
    refine (asksValues_any _ _ _ _ _ _ Ss Ms Ts A _ (HL.out.below HB1.out) (HA.out.below HB1.out)).mono ?_
    rintro e w2 ⟨rfl, hb2⟩
    have HB2 : Hid (Below w.heap.size w w2) := bt HB1.out hb2
    have FA2 := hide (FA1.out.on hb2)
    have FB2 := hide (FB1.out.on hb2)
    clear hb2 FA1 FB1 HB1
    cases q1 : valsB Ss A with
    | false =>
      go_wp2
      go_ret
      exact ⟨ret_bool (by unfold use2; simp [q0, q1]), HB2.out⟩
    | true =>
      cases q2 : decide (0 ≤ A.seen) with
      | false =>
        have hd : decide (0 ≤ A.seen) = false := by rw [← q2]
        have g0 := FA2.out.cell
        have g1 := FB2.out.cell
        go_wp2
        go_ret
        exact ⟨ret_bool (by unfold use2; simp [q0, q1, q2]), HB2.out⟩
      | true =>
        have hd : decide (0 ≤ A.seen) = true := by rw [← q2]
        have g0 := FA2.out.cell
        have g1 := FB2.out.cell
        go_wp2
        go_ret
        exact ⟨ret_bool (by unfold use2; simp [q0, q1, q2]), HB2.out⟩

set_option maxRecDepth 20000 in
set_option maxHeartbeats 4000000 in
theorem uses3_any (hl : LawAt 0 w sv mv tv Ss Ms Ts) (h : AskAt 0 w va ha qa A) :
    Calls Tryz.prog 266 #[.agg #[], .agg #[sv, mv, tv], .agg #[.string A.who, .int .i64 A.verb, .string A.kd, .string A.nm, .string A.tm, va, ha, .int .i64 A.seen, .string A.hold, .string A.tw, qa, .string A.rk, .string A.rt, .string A.rp, .int .i64 A.num]] w fun e w' => e = .returned (.bool (use3 Ss A)) ∧ Below w.heap.size w w' := by
  have HL := hide hl
  have HA := hide h
  have HZ := hide h.sz
  obtain ⟨a, cap, rfl⟩ := hl.shs.form
  obtain ⟨a1, cap1, rfl⟩ := hl.mds.form
  obtain ⟨a2, cap2, rfl⟩ := hl.tms.form
  obtain ⟨b0, k0, rfl⟩ := h.vs.at.form'
  obtain ⟨b1, k1, rfl⟩ := h.hs.at.form'
  obtain ⟨b2, k2, rfl⟩ := h.vb.form
  clear hl h
  go_enter Tryz.func266, Tryz.ntmps266
  go_wp2_with fail
  generalize hWa : World.alloc (World.alloc (w.alloc _) _) _ = Wa
  have HB0 : Hid (Below w.heap.size w Wa) := by rw [← hWa]; exact ((one_al w _).alloc (by simp) _).alloc (by simp; omega) _
  have FA0 : Hid (Box Wa (w.heap.size + 1) #[.slice a Ss.length cap, .slice a1 Ms.length cap1, .slice a2 Ts.length cap2]) := by rw [← hWa]; exact (Box.new _ _ _ _ (by simp)).on (one_al _ _)
  have FB0 : Hid (Box Wa (w.heap.size + 2) #[.string A.who, .int .i64 A.verb, .string A.kd, .string A.nm, .string A.tm, .slice b0 A.vs.length k0, .slice b1 A.hs.length k1, .int .i64 A.seen, .string A.hold, .string A.tw, .slice b2 A.vb.length k2, .string A.rk, .string A.rt, .string A.rp, .int .i64 A.num]) := by rw [← hWa]; exact Box.new _ _ _ _ (by simp)
  clear hWa
  refine (namesObject_any _ _ _ _ _ _ Ss Ms Ts A _ (HL.out.below HB0.out) (HA.out.below HB0.out)).mono ?_
  rintro e w1 ⟨rfl, hb1⟩
  have HB1 : Hid (Below w.heap.size w w1) := bt HB0.out hb1
  have FA1 := hide (FA0.out.on hb1)
  have FB1 := hide (FB0.out.on hb1)
  clear hb1 FA0 FB0 HB0
  cases q0 : namesB Ss A with
  | false =>
    go_wp2
    go_ret
    exact ⟨ret_bool (by unfold use3; simp [q0]), HB1.out⟩
  | true =>
    cases q1 : decide (0 ≤ A.seen) with
    | false =>
      have hd : decide (0 ≤ A.seen) = false := by rw [← q1]
      have g0 := FA1.out.cell
      have g1 := FB1.out.cell
      go_wp2
      go_ret
      exact ⟨ret_bool (by unfold use3; simp [q0, q1]), HB1.out⟩
    | true =>
      have hd : decide (0 ≤ A.seen) = true := by rw [← q1]
      have g0 := FA1.out.cell
      have g1 := FB1.out.cell
      go_wp2
      go_ret
      exact ⟨ret_bool (by unfold use3; simp [q0, q1]), HB1.out⟩

set_option maxRecDepth 20000 in
set_option maxHeartbeats 4000000 in
theorem uses4_any (hl : LawAt 0 w sv mv tv Ss Ms Ts) (h : AskAt 0 w va ha qa A) :
    Calls Tryz.prog 270 #[.agg #[], .agg #[sv, mv, tv], .agg #[.string A.who, .int .i64 A.verb, .string A.kd, .string A.nm, .string A.tm, va, ha, .int .i64 A.seen, .string A.hold, .string A.tw, qa, .string A.rk, .string A.rt, .string A.rp, .int .i64 A.num]] w fun e w' => e = .returned (.bool (use4 Ss A)) ∧ Below w.heap.size w w' := by
  have HL := hide hl
  have HA := hide h
  have HZ := hide h.sz
  obtain ⟨a, cap, rfl⟩ := hl.shs.form
  obtain ⟨a1, cap1, rfl⟩ := hl.mds.form
  obtain ⟨a2, cap2, rfl⟩ := hl.tms.form
  obtain ⟨b0, k0, rfl⟩ := h.vs.at.form'
  obtain ⟨b1, k1, rfl⟩ := h.hs.at.form'
  obtain ⟨b2, k2, rfl⟩ := h.vb.form
  clear hl h
  go_enter Tryz.func270, Tryz.ntmps270
  go_wp2_with fail
  generalize hWa : World.alloc (World.alloc (w.alloc _) _) _ = Wa
  have HB0 : Hid (Below w.heap.size w Wa) := by rw [← hWa]; exact ((one_al w _).alloc (by simp) _).alloc (by simp; omega) _
  have FA0 : Hid (Box Wa (w.heap.size + 1) #[.slice a Ss.length cap, .slice a1 Ms.length cap1, .slice a2 Ts.length cap2]) := by rw [← hWa]; exact (Box.new _ _ _ _ (by simp)).on (one_al _ _)
  have FB0 : Hid (Box Wa (w.heap.size + 2) #[.string A.who, .int .i64 A.verb, .string A.kd, .string A.nm, .string A.tm, .slice b0 A.vs.length k0, .slice b1 A.hs.length k1, .int .i64 A.seen, .string A.hold, .string A.tw, .slice b2 A.vb.length k2, .string A.rk, .string A.rt, .string A.rp, .int .i64 A.num]) := by rw [← hWa]; exact Box.new _ _ _ _ (by simp)
  clear hWa
  refine (namesObject_any _ _ _ _ _ _ Ss Ms Ts A _ (HL.out.below HB0.out) (HA.out.below HB0.out)).mono ?_
  rintro e w1 ⟨rfl, hb1⟩
  have HB1 : Hid (Below w.heap.size w w1) := bt HB0.out hb1
  have FA1 := hide (FA0.out.on hb1)
  have FB1 := hide (FB0.out.on hb1)
  clear hb1 FA0 FB0 HB0
  cases q0 : namesB Ss A with
  | false =>
    go_wp2
    go_ret
    exact ⟨ret_bool (by unfold use4; simp [q0]), HB1.out⟩
  | true =>
    have g0 := FA1.out.cell
    have g1 := FB1.out.cell
    go_wp2_with fail
    clear g0 g1
    refine (isName_any _ _ HZ.out.hold).mono ?_
    rintro e w91 ⟨rfl, rfl⟩
    go_wp2
    go_ret
    exact ⟨ret_bool (by unfold use4; simp [q0]), HB1.out⟩

set_option maxRecDepth 20000 in
set_option maxHeartbeats 4000000 in
theorem uses5_any (hl : LawAt 0 w sv mv tv Ss Ms Ts) (h : AskAt 0 w va ha qa A) :
    Calls Tryz.prog 274 #[.agg #[], .agg #[sv, mv, tv], .agg #[.string A.who, .int .i64 A.verb, .string A.kd, .string A.nm, .string A.tm, va, ha, .int .i64 A.seen, .string A.hold, .string A.tw, qa, .string A.rk, .string A.rt, .string A.rp, .int .i64 A.num]] w fun e w' => e = .returned (.bool (use5 A)) ∧ Below w.heap.size w w' := by
  have HL := hide hl
  have HA := hide h
  have HZ := hide h.sz
  obtain ⟨a, cap, rfl⟩ := hl.shs.form
  obtain ⟨a1, cap1, rfl⟩ := hl.mds.form
  obtain ⟨a2, cap2, rfl⟩ := hl.tms.form
  obtain ⟨b0, k0, rfl⟩ := h.vs.at.form'
  obtain ⟨b1, k1, rfl⟩ := h.hs.at.form'
  obtain ⟨b2, k2, rfl⟩ := h.vb.form
  clear hl h
  go_enter Tryz.func274, Tryz.ntmps274
  go_wp2_with fail
  generalize hWa : World.alloc (World.alloc (w.alloc _) _) _ = Wa
  have HB0 : Hid (Below w.heap.size w Wa) := by rw [← hWa]; exact ((one_al w _).alloc (by simp) _).alloc (by simp; omega) _
  have FA0 : Hid (Box Wa (w.heap.size + 1) #[.slice a Ss.length cap, .slice a1 Ms.length cap1, .slice a2 Ts.length cap2]) := by rw [← hWa]; exact (Box.new _ _ _ _ (by simp)).on (one_al _ _)
  have FB0 : Hid (Box Wa (w.heap.size + 2) #[.string A.who, .int .i64 A.verb, .string A.kd, .string A.nm, .string A.tm, .slice b0 A.vs.length k0, .slice b1 A.hs.length k1, .int .i64 A.seen, .string A.hold, .string A.tw, .slice b2 A.vb.length k2, .string A.rk, .string A.rt, .string A.rp, .int .i64 A.num]) := by rw [← hWa]; exact Box.new _ _ _ _ (by simp)
  clear hWa
  refine (isName_any _ _ HZ.out.tw).mono ?_
  rintro e w90 ⟨rfl, rfl⟩
  cases q0 : nameB A.tw with
  | false =>
    go_wp2
    go_ret
    exact ⟨ret_bool (by unfold use5; simp [q0]), HB0.out⟩
  | true =>
    have g0 := FA0.out.cell
    have g1 := FB0.out.cell
    go_wp2_with fail
    clear g0 g1
    refine (implRule_any 0 A.ru _ _ (HA.out.below HB0.out).vb HZ.out.ru).mono ?_
    rintro e w1 ⟨rfl, hb1⟩
    have HB1 : Hid (Below w.heap.size w w1) := bt HB0.out hb1
    have FA1 := hide (FA0.out.on hb1)
    have FB1 := hide (FB0.out.on hb1)
    clear hb1 FA0 FB0 HB0
    go_wp2
    go_ret
    exact ⟨ret_bool (by unfold use5; simp [q0]), HB1.out⟩

set_option maxRecDepth 20000 in
set_option maxHeartbeats 4000000 in
theorem uses6_any (hl : LawAt 0 w sv mv tv Ss Ms Ts) (h : AskAt 0 w va ha qa A) :
    Calls Tryz.prog 278 #[.agg #[], .agg #[sv, mv, tv], .agg #[.string A.who, .int .i64 A.verb, .string A.kd, .string A.nm, .string A.tm, va, ha, .int .i64 A.seen, .string A.hold, .string A.tw, qa, .string A.rk, .string A.rt, .string A.rp, .int .i64 A.num]] w fun e w' => e = .returned (.bool (use6 A)) ∧ Below w.heap.size w w' := by
  have HL := hide hl
  have HA := hide h
  have HZ := hide h.sz
  obtain ⟨a, cap, rfl⟩ := hl.shs.form
  obtain ⟨a1, cap1, rfl⟩ := hl.mds.form
  obtain ⟨a2, cap2, rfl⟩ := hl.tms.form
  obtain ⟨b0, k0, rfl⟩ := h.vs.at.form'
  obtain ⟨b1, k1, rfl⟩ := h.hs.at.form'
  obtain ⟨b2, k2, rfl⟩ := h.vb.form
  clear hl h
  go_enter Tryz.func278, Tryz.ntmps278
  go_wp2
  go_ret
  exact ⟨rfl, ((one_al w _).alloc (by simp) _).alloc (by simp; omega) _⟩
end
end Go.Proofs.YthfdfdlojfdckaaGreat

