import Derived.Test.YtfohnageehneoaaGreatUAQ
import Derived.Test.YtfohnageehneoaaGreatUHC
import Derived.Test.YtfohnageehneoaaGreatUDA
import Derived.Test.YtfohnageehneoaaGreatUTA
import Derived.Test.YtfohnageehneoaaGreatUAK
import Derived.Test.YtfohnageehneoaaGreatUB1
import Derived.Test.YtfohnageehneoaaGreatUA1
import Derived.Test.YtfohnageehneoaaGreatUTD
import Derived.Test.YtfohnageehneoaaGreatULA
import Derived.Test.YtfohnageehneoaaGreatUTB
import Derived.Test.YtfohnageehneoaaGreatUHA
namespace Go.Proofs.YtfohnageehneoaaGreat
open Go.RowKit Go.Deep

theorem place_geq (Ts : List Tm) (s : ByteArray) : decide (0 ≤ placeT Ts s) = hasT Ts s := by
  have h := placeT_neg Ts s
  cases hh : hasT Ts s with
  | false =>
    rw [hh] at h
    simp at h ⊢
    omega
  | true =>
    rw [hh] at h
    simp at h ⊢
    omega
def namesB (Ss : List Sh) (A : Ak) : Bool := (shOf Ss A.kd).isSome && nameB A.nm
def valsB (Ss : List Sh) (A : Ak) : Bool := match shOf Ss A.kd with
  | some x => decide (A.vs.length = x.fields.length)
  | none => false
theorem vals_some {Ss : List Sh} {A : Ak} {x : Sh} (h : shOf Ss A.kd = some x) : valsB Ss A = decide (A.vs.length = x.fields.length) := by unfold valsB; rw [h]
theorem vals_none {Ss : List Sh} {A : Ak} (h : shOf Ss A.kd = none) : valsB Ss A = false := by unfold valsB; rw [h]
theorem names_some {Ss : List Sh} {A : Ak} {x : Sh} (h : shOf Ss A.kd = some x) : namesB Ss A = nameB A.nm := by unfold namesB; rw [h]; rfl
theorem names_none {Ss : List Sh} {A : Ak} (h : shOf Ss A.kd = none) : namesB Ss A = false := by unfold namesB; rw [h]; rfl
def use1 (Ss : List Sh) (Ts : List Tm) (A : Ak) : Bool := namesB Ss A && (valsB Ss A && (hasT Ts A.tm && (decide (A.hs.length ≤ 3) && ascB A.hs)))
def use2 (Ss : List Sh) (A : Ak) : Bool := namesB Ss A && (valsB Ss A && decide (0 ≤ A.seen))
def use3 (Ss : List Sh) (A : Ak) : Bool := namesB Ss A && decide (0 ≤ A.seen)
def use4 (Ss : List Sh) (A : Ak) : Bool := namesB Ss A && nameB A.hold
def use5 (A : Ak) : Bool := nameB A.tw && ruleB A.ru
def use6 (A : Ak) : Bool := decide (1 ≤ A.num)

theorem int_le3 (n : Nat) : decide ((n : Int) ≤ 3) = decide (n ≤ 3) := by
  by_cases h : n ≤ 3
  · rw [decide_eq_true h]; simp; omega
  · rw [decide_eq_false h]; simp; omega
theorem nat_beq (n m : Nat) : ((n : Int) == (m : Int)) = decide (n = m) := by
  by_cases h : n = m
  · subst h; simp
  · rw [decide_eq_false h]; simp; omega

section
variable (sv mv tv va ha qa : Value) (Ss : List Sh) (Ms : List Md) (Ts : List Tm) (A : Ak) (w : World)

set_option maxRecDepth 20000 in
set_option maxHeartbeats 4000000 in
theorem namesObject_any (hl : LawAt 0 w sv mv tv Ss Ms Ts) (h : AskAt 0 w va ha qa A) :
    Calls Tryz.prog 313 #[.agg #[sv, mv, tv], .agg #[.string A.who, .int .i64 A.verb, .string A.kd, .string A.nm, .string A.tm, va, ha, .int .i64 A.seen, .string A.hold, .string A.tw, qa, .string A.rk, .string A.rt, .string A.rp, .int .i64 A.num]] w fun e w' => e = .returned (.bool (namesB Ss A)) ∧ Below w.heap.size w w' := by
  have HL := hide hl
  have HA := hide h
  have HZ := hide h.sz
  obtain ⟨a, cap, rfl⟩ := hl.shs.form
  obtain ⟨a1, cap1, rfl⟩ := hl.mds.form
  obtain ⟨a2, cap2, rfl⟩ := hl.tms.form
  obtain ⟨b0, k0, rfl⟩ := h.vs.at.form'
  obtain ⟨b1, k1, rfl⟩ := h.hs.at.form'
  obtain ⟨b2, k2, rfl⟩ := h.vb.form
  clear hl h
  go_enter Tryz.func313, Tryz.ntmps313
  go_wp2_with fail
  generalize hWa : World.alloc (w.alloc _) _ = Wa
  have HB0 : Hid (Below w.heap.size w Wa) := by rw [← hWa]; exact (one_al w _).alloc (by simp) _
  have FA0 : Hid (Box Wa w.heap.size #[.slice a Ss.length cap, .slice a1 Ms.length cap1, .slice a2 Ts.length cap2]) := by rw [← hWa]; exact (Box.new _ _ _ _ rfl).on (one_al _ _)
  have FB0 : Hid (Box Wa (w.heap.size + 1) #[.string A.who, .int .i64 A.verb, .string A.kd, .string A.nm, .string A.tm, .slice b0 A.vs.length k0, .slice b1 A.hs.length k1, .int .i64 A.seen, .string A.hold, .string A.tw, .slice b2 A.vb.length k2, .string A.rk, .string A.rt, .string A.rp, .int .i64 A.num]) := by rw [← hWa]; exact Box.new _ _ _ _ (by simp)
  clear hWa
  refine (shapeOf_any 0 _ Ss A.kd _ (HL.out.below HB0.out).shs).mono ?_
  rintro e w1 ⟨hb1, hsh⟩
  have HB1 : Hid (Below w.heap.size w w1) := bt HB0.out hb1
  have FB1 := hide (FB0.out.on hb1)
  clear hb1 FA0 FB0 HB0
  have hlt := FB1.out.lt
  have c3 : ∀ o, (w1.alloc o).cell? ⟨w.heap.size + 1, 3, none⟩ = some (.string A.nm) := fun o => (cell_alloc_lt _ _ _ _ hlt).trans ((FB1.out.cell 3).trans (by simp))
  have c5 : ∀ o, (w1.alloc o).cell? ⟨w.heap.size + 1, 5, none⟩ = some (.slice b0 A.vs.length k0) := fun o => (cell_alloc_lt _ _ _ _ hlt).trans ((FB1.out.cell 5).trans (by simp))
  have hsn : A.nm.size ≤ maxLen := HZ.out.nm
  rcases hsh with ⟨x, fv, hx, rfl, hf⟩ | ⟨hx, rfl⟩
  · obtain ⟨fa, fc, rfl⟩ := hf.form
    have HR := hide (names_some hx)
    clear hf hx
    go_wp2_with (go_at_call 110; refine (isName_any _ _ (by with_reducible assumption)).mono ?_; rintro e w' ⟨rfl, rfl⟩)
    go_ret
    exact ⟨ret_bool (by rw [HR.out]), bt HB1.out (one_al _ _)⟩
  · have HR := hide (names_none hx)
    clear hx
    go_wp2
    go_ret
    exact ⟨ret_bool (by rw [HR.out]), bt HB1.out (one_al _ _)⟩

set_option maxRecDepth 20000 in
set_option maxHeartbeats 4000000 in
theorem asksValues_any (hl : LawAt 0 w sv mv tv Ss Ms Ts) (h : AskAt 0 w va ha qa A) :
    Calls Tryz.prog 314 #[.agg #[sv, mv, tv], .agg #[.string A.who, .int .i64 A.verb, .string A.kd, .string A.nm, .string A.tm, va, ha, .int .i64 A.seen, .string A.hold, .string A.tw, qa, .string A.rk, .string A.rt, .string A.rp, .int .i64 A.num]] w fun e w' => e = .returned (.bool (valsB Ss A)) ∧ Below w.heap.size w w' := by
  have HL := hide hl
  have HA := hide h
  have HZ := hide h.sz
  obtain ⟨a, cap, rfl⟩ := hl.shs.form
  obtain ⟨a1, cap1, rfl⟩ := hl.mds.form
  obtain ⟨a2, cap2, rfl⟩ := hl.tms.form
  obtain ⟨b0, k0, rfl⟩ := h.vs.at.form'
  obtain ⟨b1, k1, rfl⟩ := h.hs.at.form'
  obtain ⟨b2, k2, rfl⟩ := h.vb.form
  clear hl h
  go_enter Tryz.func314, Tryz.ntmps314
  go_wp2_with fail
  generalize hWa : World.alloc (w.alloc _) _ = Wa
  have HB0 : Hid (Below w.heap.size w Wa) := by rw [← hWa]; exact (one_al w _).alloc (by simp) _
  have FA0 : Hid (Box Wa w.heap.size #[.slice a Ss.length cap, .slice a1 Ms.length cap1, .slice a2 Ts.length cap2]) := by rw [← hWa]; exact (Box.new _ _ _ _ rfl).on (one_al _ _)
  have FB0 : Hid (Box Wa (w.heap.size + 1) #[.string A.who, .int .i64 A.verb, .string A.kd, .string A.nm, .string A.tm, .slice b0 A.vs.length k0, .slice b1 A.hs.length k1, .int .i64 A.seen, .string A.hold, .string A.tw, .slice b2 A.vb.length k2, .string A.rk, .string A.rt, .string A.rp, .int .i64 A.num]) := by rw [← hWa]; exact Box.new _ _ _ _ (by simp)
  clear hWa
  refine (shapeOf_any 0 _ Ss A.kd _ (HL.out.below HB0.out).shs).mono ?_
  rintro e w1 ⟨hb1, hsh⟩
  have HB1 : Hid (Below w.heap.size w w1) := bt HB0.out hb1
  have FB1 := hide (FB0.out.on hb1)
  clear hb1 FA0 FB0 HB0
  have hlt := FB1.out.lt
  have c3 : ∀ o, (w1.alloc o).cell? ⟨w.heap.size + 1, 3, none⟩ = some (.string A.nm) := fun o => (cell_alloc_lt _ _ _ _ hlt).trans ((FB1.out.cell 3).trans (by simp))
  have c5 : ∀ o, (w1.alloc o).cell? ⟨w.heap.size + 1, 5, none⟩ = some (.slice b0 A.vs.length k0) := fun o => (cell_alloc_lt _ _ _ _ hlt).trans ((FB1.out.cell 5).trans (by simp))
  have hsn : A.nm.size ≤ maxLen := HZ.out.nm
  rcases hsh with ⟨x, fv, hx, rfl, hf⟩ | ⟨hx, rfl⟩
  · obtain ⟨fa, fc, rfl⟩ := hf.form
    have HR := hide (vals_some hx)
    clear hf hx
    go_wp2_with (go_at_call 110; refine (isName_any _ _ (by with_reducible assumption)).mono ?_; rintro e w' ⟨rfl, rfl⟩)
    go_ret
    exact ⟨ret_bool (by rw [HR.out]; exact nat_beq _ _), bt HB1.out (one_al _ _)⟩
  · have HR := hide (vals_none hx)
    clear hx
    go_wp2
    go_ret
    exact ⟨ret_bool (by rw [HR.out]), bt HB1.out (one_al _ _)⟩
end
end Go.Proofs.YtfohnageehneoaaGreat

namespace Go.Proofs.YtfohnageehneoaaGreat
open Go.RowKit Go.Deep
section
variable (sv mv tv va ha qa : Value) (Ss : List Sh) (Ms : List Md) (Ts : List Tm) (A : Ak) (w : World)

set_option maxRecDepth 20000 in
set_option maxHeartbeats 4000000 in
theorem uses1_any (hl : LawAt 0 w sv mv tv Ss Ms Ts) (h : AskAt 0 w va ha qa A) :
    Calls Tryz.prog 311 #[.agg #[], .agg #[sv, mv, tv], .agg #[.string A.who, .int .i64 A.verb, .string A.kd, .string A.nm, .string A.tm, va, ha, .int .i64 A.seen, .string A.hold, .string A.tw, qa, .string A.rk, .string A.rt, .string A.rp, .int .i64 A.num]] w fun e w' => e = .returned (.bool (use1 Ss Ts A)) ∧ Below w.heap.size w w' := by
  have HL := hide hl
  have HA := hide h
  have HZ := hide h.sz
  obtain ⟨a, cap, rfl⟩ := hl.shs.form
  obtain ⟨a1, cap1, rfl⟩ := hl.mds.form
  obtain ⟨a2, cap2, rfl⟩ := hl.tms.form
  obtain ⟨b0, k0, rfl⟩ := h.vs.at.form'
  obtain ⟨b1, k1, rfl⟩ := h.hs.at.form'
  obtain ⟨b2, k2, rfl⟩ := h.vb.form
  clear hl h
  go_enter Tryz.func311, Tryz.ntmps311
  go_wp2_with fail
  generalize hWa : World.alloc (World.alloc (w.alloc _) _) _ = Wa
  have HB0 : Hid (Below w.heap.size w Wa) := by rw [← hWa]; exact ((one_al w _).alloc (by simp) _).alloc (by simp; omega) _
  have FA0 : Hid (Box Wa (w.heap.size + 1) #[.slice a Ss.length cap, .slice a1 Ms.length cap1, .slice a2 Ts.length cap2]) := by rw [← hWa]; exact (Box.new _ _ _ _ (by simp)).on (one_al _ _)
  have FB0 : Hid (Box Wa (w.heap.size + 2) #[.string A.who, .int .i64 A.verb, .string A.kd, .string A.nm, .string A.tm, .slice b0 A.vs.length k0, .slice b1 A.hs.length k1, .int .i64 A.seen, .string A.hold, .string A.tw, .slice b2 A.vb.length k2, .string A.rk, .string A.rt, .string A.rp, .int .i64 A.num]) := by rw [← hWa]; exact Box.new _ _ _ _ (by simp)
  clear hWa
  refine (namesObject_any _ _ _ _ _ _ Ss Ms Ts A _ (HL.out.below HB0.out) (HA.out.below HB0.out)).mono ?_
  rintro e w1 ⟨rfl, hb1⟩
  have HB1 : Hid (Below w.heap.size w w1) := bt HB0.out hb1
  have FA1 := hide (FA0.out.on hb1)
  have FB1 := hide (FB0.out.on hb1)
  clear hb1 FA0 FB0 HB0
  cases q0 : namesB Ss A with
  | false =>
    go_wp2
    go_ret
    exact ⟨ret_bool (by unfold use1; simp [q0]), HB1.out⟩
  | true =>
    have g0 := FA1.out.cell
    have g1 := FB1.out.cell
    go_wp2_with fail
    clear g0 g1
    refine (asksValues_any _ _ _ _ _ _ Ss Ms Ts A _ (HL.out.below HB1.out) (HA.out.below HB1.out)).mono ?_
    rintro e w2 ⟨rfl, hb2⟩
    have HB2 : Hid (Below w.heap.size w w2) := bt HB1.out hb2
    have FA2 := hide (FA1.out.on hb2)
    have FB2 := hide (FB1.out.on hb2)
    clear hb2 FA1 FB1 HB1
    cases q1 : valsB Ss A with
    | false =>
      go_wp2
      go_ret
      exact ⟨ret_bool (by unfold use1; simp [q0, q1]), HB2.out⟩
    | true =>
      have g0 := FA2.out.cell
      have g1 := FB2.out.cell
      go_wp2_with fail
      clear g0 g1
      refine (teamPlace_any 0 _ Ts A.tm _ (HL.out.below HB2.out).tms).mono ?_
      rintro e w3 ⟨rfl, hb3⟩
      have HB3 : Hid (Below w.heap.size w w3) := bt HB2.out hb3
      have FA3 := hide (FA2.out.on hb3)
      have FB3 := hide (FB2.out.on hb3)
      clear hb3 FA2 FB2 HB2
      have hp := place_geq Ts A.tm
      cases q2 : hasT Ts A.tm with
      | false =>
        rw [q2] at hp
        go_wp2
        go_ret
        exact ⟨ret_bool (by unfold use1; simp [q0, q1, q2]), HB3.out⟩
      | true =>
        rw [q2] at hp
        cases q3 : decide (A.hs.length ≤ 3) with
        | false =>
          have hd : decide ((A.hs.length : Int) ≤ 3) = false := by rw [← q3]; exact int_le3 _
          have g0 := FA3.out.cell
          have g1 := FB3.out.cell
          go_wp2
          go_ret
          exact ⟨ret_bool (by unfold use1; simp [q0, q1, q2, q3]), HB3.out⟩
        | true =>
          have hd3 : decide ((A.hs.length : Int) ≤ 3) = true := by rw [← q3]; exact int_le3 _
          have g0 := FA3.out.cell
          have g1 := FB3.out.cell
          go_wp2_with fail
          clear g0 g1
          refine (ascNames_any _ A.hs _ (HA.out.below HB3.out).hs.at).mono ?_
          rintro e w94 ⟨rfl, rfl⟩
          go_wp2
          go_ret
          exact ⟨ret_bool (by unfold use1; simp [q0, q1, q2, q3]), HB3.out⟩

set_option maxRecDepth 20000 in
set_option maxHeartbeats 4000000 in
theorem uses2_any (hl : LawAt 0 w sv mv tv Ss Ms Ts) (h : AskAt 0 w va ha qa A) :
    Calls Tryz.prog 317 #[.agg #[], .agg #[sv, mv, tv], .agg #[.string A.who, .int .i64 A.verb, .string A.kd, .string A.nm, .string A.tm, va, ha, .int .i64 A.seen, .string A.hold, .string A.tw, qa, .string A.rk, .string A.rt, .string A.rp, .int .i64 A.num]] w fun e w' => e = .returned (.bool (use2 Ss A)) ∧ Below w.heap.size w w' := by
  have HL := hide hl
  have HA := hide h
  have HZ := hide h.sz
  obtain ⟨a, cap, rfl⟩ := hl.shs.form
  obtain ⟨a1, cap1, rfl⟩ := hl.mds.form
  obtain ⟨a2, cap2, rfl⟩ := hl.tms.form
  obtain ⟨b0, k0, rfl⟩ := h.vs.at.form'
  obtain ⟨b1, k1, rfl⟩ := h.hs.at.form'
  obtain ⟨b2, k2, rfl⟩ := h.vb.form
  clear hl h
  go_enter Tryz.func317, Tryz.ntmps317
  go_wp2_with fail
  generalize hWa : World.alloc (World.alloc (w.alloc _) _) _ = Wa
  have HB0 : Hid (Below w.heap.size w Wa) := by rw [← hWa]; exact ((one_al w _).alloc (by simp) _).alloc (by simp; omega) _
  have FA0 : Hid (Box Wa (w.heap.size + 1) #[.slice a Ss.length cap, .slice a1 Ms.length cap1, .slice a2 Ts.length cap2]) := by rw [← hWa]; exact (Box.new _ _ _ _ (by simp)).on (one_al _ _)
  have FB0 : Hid (Box Wa (w.heap.size + 2) #[.string A.who, .int .i64 A.verb, .string A.kd, .string A.nm, .string A.tm, .slice b0 A.vs.length k0, .slice b1 A.hs.length k1, .int .i64 A.seen, .string A.hold, .string A.tw, .slice b2 A.vb.length k2, .string A.rk, .string A.rt, .string A.rp, .int .i64 A.num]) := by rw [← hWa]; exact Box.new _ _ _ _ (by simp)
  clear hWa
  refine (namesObject_any _ _ _ _ _ _ Ss Ms Ts A _ (HL.out.below HB0.out) (HA.out.below HB0.out)).mono ?_
  rintro e w1 ⟨rfl, hb1⟩
  have HB1 : Hid (Below w.heap.size w w1) := bt HB0.out hb1
  have FA1 := hide (FA0.out.on hb1)
  have FB1 := hide (FB0.out.on hb1)
  clear hb1 FA0 FB0 HB0
  cases q0 : namesB Ss A with
  | false =>
    go_wp2
    go_ret
    exact ⟨ret_bool (by unfold use2; simp [q0]), HB1.out⟩
  | true =>
    have g0 := FA1.out.cell
    have g1 := FB1.out.cell
    go_wp2_with fail
    clear g0 g1
    refine (asksValues_any _ _ _ _ _ _ Ss Ms Ts A _ (HL.out.below HB1.out) (HA.out.below HB1.out)).mono ?_
    rintro e w2 ⟨rfl, hb2⟩
    have HB2 : Hid (Below w.heap.size w w2) := bt HB1.out hb2
    have FA2 := hide (FA1.out.on hb2)
    have FB2 := hide (FB1.out.on hb2)
    clear hb2 FA1 FB1 HB1
    cases q1 : valsB Ss A with
    | false =>
      go_wp2
      go_ret
      exact ⟨ret_bool (by unfold use2; simp [q0, q1]), HB2.out⟩
    | true =>
      cases q2 : decide (0 ≤ A.seen) with
      | false =>
        have hd : decide (0 ≤ A.seen) = false := by rw [← q2]
        have g0 := FA2.out.cell
        have g1 := FB2.out.cell
        go_wp2
        go_ret
        exact ⟨ret_bool (by unfold use2; simp [q0, q1, q2]), HB2.out⟩
      | true =>
        have hd : decide (0 ≤ A.seen) = true := by rw [← q2]
        have g0 := FA2.out.cell
        have g1 := FB2.out.cell
        go_wp2
        go_ret
        exact ⟨ret_bool (by unfold use2; simp [q0, q1, q2]), HB2.out⟩

set_option maxRecDepth 20000 in
set_option maxHeartbeats 4000000 in
theorem uses3_any (hl : LawAt 0 w sv mv tv Ss Ms Ts) (h : AskAt 0 w va ha qa A) :
    Calls Tryz.prog 321 #[.agg #[], .agg #[sv, mv, tv], .agg #[.string A.who, .int .i64 A.verb, .string A.kd, .string A.nm, .string A.tm, va, ha, .int .i64 A.seen, .string A.hold, .string A.tw, qa, .string A.rk, .string A.rt, .string A.rp, .int .i64 A.num]] w fun e w' => e = .returned (.bool (use3 Ss A)) ∧ Below w.heap.size w w' := by
  have HL := hide hl
  have HA := hide h
  have HZ := hide h.sz
  obtain ⟨a, cap, rfl⟩ := hl.shs.form
  obtain ⟨a1, cap1, rfl⟩ := hl.mds.form
  obtain ⟨a2, cap2, rfl⟩ := hl.tms.form
  obtain ⟨b0, k0, rfl⟩ := h.vs.at.form'
  obtain ⟨b1, k1, rfl⟩ := h.hs.at.form'
  obtain ⟨b2, k2, rfl⟩ := h.vb.form
  clear hl h
  go_enter Tryz.func321, Tryz.ntmps321
  go_wp2_with fail
  generalize hWa : World.alloc (World.alloc (w.alloc _) _) _ = Wa
  have HB0 : Hid (Below w.heap.size w Wa) := by rw [← hWa]; exact ((one_al w _).alloc (by simp) _).alloc (by simp; omega) _
  have FA0 : Hid (Box Wa (w.heap.size + 1) #[.slice a Ss.length cap, .slice a1 Ms.length cap1, .slice a2 Ts.length cap2]) := by rw [← hWa]; exact (Box.new _ _ _ _ (by simp)).on (one_al _ _)
  have FB0 : Hid (Box Wa (w.heap.size + 2) #[.string A.who, .int .i64 A.verb, .string A.kd, .string A.nm, .string A.tm, .slice b0 A.vs.length k0, .slice b1 A.hs.length k1, .int .i64 A.seen, .string A.hold, .string A.tw, .slice b2 A.vb.length k2, .string A.rk, .string A.rt, .string A.rp, .int .i64 A.num]) := by rw [← hWa]; exact Box.new _ _ _ _ (by simp)
  clear hWa
  refine (namesObject_any _ _ _ _ _ _ Ss Ms Ts A _ (HL.out.below HB0.out) (HA.out.below HB0.out)).mono ?_
  rintro e w1 ⟨rfl, hb1⟩
  have HB1 : Hid (Below w.heap.size w w1) := bt HB0.out hb1
  have FA1 := hide (FA0.out.on hb1)
  have FB1 := hide (FB0.out.on hb1)
  clear hb1 FA0 FB0 HB0
  cases q0 : namesB Ss A with
  | false =>
    go_wp2
    go_ret
    exact ⟨ret_bool (by unfold use3; simp [q0]), HB1.out⟩
  | true =>
    cases q1 : decide (0 ≤ A.seen) with
    | false =>
      have hd : decide (0 ≤ A.seen) = false := by rw [← q1]
      have g0 := FA1.out.cell
      have g1 := FB1.out.cell
      go_wp2
      go_ret
      exact ⟨ret_bool (by unfold use3; simp [q0, q1]), HB1.out⟩
    | true =>
      have hd : decide (0 ≤ A.seen) = true := by rw [← q1]
      have g0 := FA1.out.cell
      have g1 := FB1.out.cell
      go_wp2
      go_ret
      exact ⟨ret_bool (by unfold use3; simp [q0, q1]), HB1.out⟩

set_option maxRecDepth 20000 in
set_option maxHeartbeats 4000000 in
theorem uses4_any (hl : LawAt 0 w sv mv tv Ss Ms Ts) (h : AskAt 0 w va ha qa A) :
    Calls Tryz.prog 325 #[.agg #[], .agg #[sv, mv, tv], .agg #[.string A.who, .int .i64 A.verb, .string A.kd, .string A.nm, .string A.tm, va, ha, .int .i64 A.seen, .string A.hold, .string A.tw, qa, .string A.rk, .string A.rt, .string A.rp, .int .i64 A.num]] w fun e w' => e = .returned (.bool (use4 Ss A)) ∧ Below w.heap.size w w' := by
  have HL := hide hl
  have HA := hide h
  have HZ := hide h.sz
  obtain ⟨a, cap, rfl⟩ := hl.shs.form
  obtain ⟨a1, cap1, rfl⟩ := hl.mds.form
  obtain ⟨a2, cap2, rfl⟩ := hl.tms.form
  obtain ⟨b0, k0, rfl⟩ := h.vs.at.form'
  obtain ⟨b1, k1, rfl⟩ := h.hs.at.form'
  obtain ⟨b2, k2, rfl⟩ := h.vb.form
  clear hl h
  go_enter Tryz.func325, Tryz.ntmps325
  go_wp2_with fail
  generalize hWa : World.alloc (World.alloc (w.alloc _) _) _ = Wa
  have HB0 : Hid (Below w.heap.size w Wa) := by rw [← hWa]; exact ((one_al w _).alloc (by simp) _).alloc (by simp; omega) _
  have FA0 : Hid (Box Wa (w.heap.size + 1) #[.slice a Ss.length cap, .slice a1 Ms.length cap1, .slice a2 Ts.length cap2]) := by rw [← hWa]; exact (Box.new _ _ _ _ (by simp)).on (one_al _ _)
  have FB0 : Hid (Box Wa (w.heap.size + 2) #[.string A.who, .int .i64 A.verb, .string A.kd, .string A.nm, .string A.tm, .slice b0 A.vs.length k0, .slice b1 A.hs.length k1, .int .i64 A.seen, .string A.hold, .string A.tw, .slice b2 A.vb.length k2, .string A.rk, .string A.rt, .string A.rp, .int .i64 A.num]) := by rw [← hWa]; exact Box.new _ _ _ _ (by simp)
  clear hWa
  refine (namesObject_any _ _ _ _ _ _ Ss Ms Ts A _ (HL.out.below HB0.out) (HA.out.below HB0.out)).mono ?_
  rintro e w1 ⟨rfl, hb1⟩
  have HB1 : Hid (Below w.heap.size w w1) := bt HB0.out hb1
  have FA1 := hide (FA0.out.on hb1)
  have FB1 := hide (FB0.out.on hb1)
  clear hb1 FA0 FB0 HB0
  cases q0 : namesB Ss A with
  | false =>
    go_wp2
    go_ret
    exact ⟨ret_bool (by unfold use4; simp [q0]), HB1.out⟩
  | true =>
    have g0 := FA1.out.cell
    have g1 := FB1.out.cell
    go_wp2_with fail
    clear g0 g1
    refine (isName_any _ _ HZ.out.hold).mono ?_
    rintro e w91 ⟨rfl, rfl⟩
    go_wp2
    go_ret
    exact ⟨ret_bool (by unfold use4; simp [q0]), HB1.out⟩

set_option maxRecDepth 20000 in
set_option maxHeartbeats 4000000 in
theorem uses5_any (hl : LawAt 0 w sv mv tv Ss Ms Ts) (h : AskAt 0 w va ha qa A) :
    Calls Tryz.prog 329 #[.agg #[], .agg #[sv, mv, tv], .agg #[.string A.who, .int .i64 A.verb, .string A.kd, .string A.nm, .string A.tm, va, ha, .int .i64 A.seen, .string A.hold, .string A.tw, qa, .string A.rk, .string A.rt, .string A.rp, .int .i64 A.num]] w fun e w' => e = .returned (.bool (use5 A)) ∧ Below w.heap.size w w' := by
  have HL := hide hl
  have HA := hide h
  have HZ := hide h.sz
  obtain ⟨a, cap, rfl⟩ := hl.shs.form
  obtain ⟨a1, cap1, rfl⟩ := hl.mds.form
  obtain ⟨a2, cap2, rfl⟩ := hl.tms.form
  obtain ⟨b0, k0, rfl⟩ := h.vs.at.form'
  obtain ⟨b1, k1, rfl⟩ := h.hs.at.form'
  obtain ⟨b2, k2, rfl⟩ := h.vb.form
  clear hl h
  go_enter Tryz.func329, Tryz.ntmps329
  go_wp2_with fail
  generalize hWa : World.alloc (World.alloc (w.alloc _) _) _ = Wa
  have HB0 : Hid (Below w.heap.size w Wa) := by rw [← hWa]; exact ((one_al w _).alloc (by simp) _).alloc (by simp; omega) _
  have FA0 : Hid (Box Wa (w.heap.size + 1) #[.slice a Ss.length cap, .slice a1 Ms.length cap1, .slice a2 Ts.length cap2]) := by rw [← hWa]; exact (Box.new _ _ _ _ (by simp)).on (one_al _ _)
  have FB0 : Hid (Box Wa (w.heap.size + 2) #[.string A.who, .int .i64 A.verb, .string A.kd, .string A.nm, .string A.tm, .slice b0 A.vs.length k0, .slice b1 A.hs.length k1, .int .i64 A.seen, .string A.hold, .string A.tw, .slice b2 A.vb.length k2, .string A.rk, .string A.rt, .string A.rp, .int .i64 A.num]) := by rw [← hWa]; exact Box.new _ _ _ _ (by simp)
  clear hWa
  refine (isName_any _ _ HZ.out.tw).mono ?_
  rintro e w90 ⟨rfl, rfl⟩
  cases q0 : nameB A.tw with
  | false =>
    go_wp2
    go_ret
    exact ⟨ret_bool (by unfold use5; simp [q0]), HB0.out⟩
  | true =>
    have g0 := FA0.out.cell
    have g1 := FB0.out.cell
    go_wp2_with fail
    clear g0 g1
    refine (implRule_any 0 A.ru _ _ (HA.out.below HB0.out).vb HZ.out.ru).mono ?_
    rintro e w1 ⟨rfl, hb1⟩
    have HB1 : Hid (Below w.heap.size w w1) := bt HB0.out hb1
    have FA1 := hide (FA0.out.on hb1)
    have FB1 := hide (FB0.out.on hb1)
    clear hb1 FA0 FB0 HB0
    go_wp2
    go_ret
    exact ⟨ret_bool (by unfold use5; simp [q0]), HB1.out⟩

set_option maxRecDepth 20000 in
set_option maxHeartbeats 4000000 in
theorem uses6_any (hl : LawAt 0 w sv mv tv Ss Ms Ts) (h : AskAt 0 w va ha qa A) :
    Calls Tryz.prog 333 #[.agg #[], .agg #[sv, mv, tv], .agg #[.string A.who, .int .i64 A.verb, .string A.kd, .string A.nm, .string A.tm, va, ha, .int .i64 A.seen, .string A.hold, .string A.tw, qa, .string A.rk, .string A.rt, .string A.rp, .int .i64 A.num]] w fun e w' => e = .returned (.bool (use6 A)) ∧ Below w.heap.size w w' := by
  have HL := hide hl
  have HA := hide h
  have HZ := hide h.sz
  obtain ⟨a, cap, rfl⟩ := hl.shs.form
  obtain ⟨a1, cap1, rfl⟩ := hl.mds.form
  obtain ⟨a2, cap2, rfl⟩ := hl.tms.form
  obtain ⟨b0, k0, rfl⟩ := h.vs.at.form'
  obtain ⟨b1, k1, rfl⟩ := h.hs.at.form'
  obtain ⟨b2, k2, rfl⟩ := h.vb.form
  clear hl h
  go_enter Tryz.func333, Tryz.ntmps333
  go_wp2
  go_ret
  exact ⟨rfl, ((one_al w _).alloc (by simp) _).alloc (by simp; omega) _⟩
end
end Go.Proofs.YtfohnageehneoaaGreat

namespace Go.Proofs.YtfohnageehneoaaGreat
open Go.RowKit Go.Deep
section
variable (b0 b1 b2 : Option Addr) (k0 k1 k2 : Nat) (A : Ak) (w : World)

set_option maxRecDepth 20000 in
set_option maxHeartbeats 4000000 in
theorem without1_any : Calls Tryz.prog 312 #[.agg #[], .agg #[.string A.who, .int .i64 A.verb, .string A.kd, .string A.nm, .string A.tm, .slice b0 A.vs.length k0, .slice b1 A.hs.length k1, .int .i64 A.seen, .string A.hold, .string A.tw, .slice b2 A.vb.length k2, .string A.rk, .string A.rt, .string A.rp, .int .i64 A.num]] w fun e w' => e = .returned (.agg #[.string A.who, .int .i64 A.verb, .string ⟨#[]⟩, .string ⟨#[]⟩, .string ⟨#[]⟩, .slice none 0 0, .slice none 0 0, .int .i64 A.seen, .string A.hold, .string A.tw, .slice b2 A.vb.length k2, .string A.rk, .string A.rt, .string A.rp, .int .i64 A.num]) ∧ Below w.heap.size w w' := by
  go_enter Tryz.func312, Tryz.ntmps312
  go_wp2
  refine bodyPost_ret (v := .agg #[.string A.who, .int .i64 A.verb, .string ⟨#[]⟩, .string ⟨#[]⟩, .string ⟨#[]⟩, .slice none 0 0, .slice none 0 0, .int .i64 A.seen, .string A.hold, .string A.tw, .slice b2 A.vb.length k2, .string A.rk, .string A.rt, .string A.rp, .int .i64 A.num]) (by simp [results, Tryz.results312, go_sem]) rfl ⟨rfl, ?_⟩
  exact ((one_al w _).alloc (by simp) _).alloc (by simp; omega) _

set_option maxRecDepth 20000 in
set_option maxHeartbeats 4000000 in
theorem without2_any : Calls Tryz.prog 318 #[.agg #[], .agg #[.string A.who, .int .i64 A.verb, .string A.kd, .string A.nm, .string A.tm, .slice b0 A.vs.length k0, .slice b1 A.hs.length k1, .int .i64 A.seen, .string A.hold, .string A.tw, .slice b2 A.vb.length k2, .string A.rk, .string A.rt, .string A.rp, .int .i64 A.num]] w fun e w' => e = .returned (.agg #[.string A.who, .int .i64 A.verb, .string ⟨#[]⟩, .string ⟨#[]⟩, .string A.tm, .slice none 0 0, .slice b1 A.hs.length k1, .int .i64 0, .string A.hold, .string A.tw, .slice b2 A.vb.length k2, .string A.rk, .string A.rt, .string A.rp, .int .i64 A.num]) ∧ Below w.heap.size w w' := by
  go_enter Tryz.func318, Tryz.ntmps318
  go_wp2
  refine bodyPost_ret (v := .agg #[.string A.who, .int .i64 A.verb, .string ⟨#[]⟩, .string ⟨#[]⟩, .string A.tm, .slice none 0 0, .slice b1 A.hs.length k1, .int .i64 0, .string A.hold, .string A.tw, .slice b2 A.vb.length k2, .string A.rk, .string A.rt, .string A.rp, .int .i64 A.num]) (by simp [results, Tryz.results318, go_sem]) rfl ⟨rfl, ?_⟩
  exact ((one_al w _).alloc (by simp) _).alloc (by simp; omega) _

set_option maxRecDepth 20000 in
set_option maxHeartbeats 4000000 in
theorem without3_any : Calls Tryz.prog 322 #[.agg #[], .agg #[.string A.who, .int .i64 A.verb, .string A.kd, .string A.nm, .string A.tm, .slice b0 A.vs.length k0, .slice b1 A.hs.length k1, .int .i64 A.seen, .string A.hold, .string A.tw, .slice b2 A.vb.length k2, .string A.rk, .string A.rt, .string A.rp, .int .i64 A.num]] w fun e w' => e = .returned (.agg #[.string A.who, .int .i64 A.verb, .string ⟨#[]⟩, .string ⟨#[]⟩, .string A.tm, .slice b0 A.vs.length k0, .slice b1 A.hs.length k1, .int .i64 0, .string A.hold, .string A.tw, .slice b2 A.vb.length k2, .string A.rk, .string A.rt, .string A.rp, .int .i64 A.num]) ∧ Below w.heap.size w w' := by
  go_enter Tryz.func322, Tryz.ntmps322
  go_wp2
  refine bodyPost_ret (v := .agg #[.string A.who, .int .i64 A.verb, .string ⟨#[]⟩, .string ⟨#[]⟩, .string A.tm, .slice b0 A.vs.length k0, .slice b1 A.hs.length k1, .int .i64 0, .string A.hold, .string A.tw, .slice b2 A.vb.length k2, .string A.rk, .string A.rt, .string A.rp, .int .i64 A.num]) (by simp [results, Tryz.results322, go_sem]) rfl ⟨rfl, ?_⟩
  exact ((one_al w _).alloc (by simp) _).alloc (by simp; omega) _

set_option maxRecDepth 20000 in
set_option maxHeartbeats 4000000 in
theorem without4_any : Calls Tryz.prog 326 #[.agg #[], .agg #[.string A.who, .int .i64 A.verb, .string A.kd, .string A.nm, .string A.tm, .slice b0 A.vs.length k0, .slice b1 A.hs.length k1, .int .i64 A.seen, .string A.hold, .string A.tw, .slice b2 A.vb.length k2, .string A.rk, .string A.rt, .string A.rp, .int .i64 A.num]] w fun e w' => e = .returned (.agg #[.string A.who, .int .i64 A.verb, .string ⟨#[]⟩, .string ⟨#[]⟩, .string A.tm, .slice b0 A.vs.length k0, .slice b1 A.hs.length k1, .int .i64 A.seen, .string ⟨#[]⟩, .string A.tw, .slice b2 A.vb.length k2, .string A.rk, .string A.rt, .string A.rp, .int .i64 A.num]) ∧ Below w.heap.size w w' := by
  go_enter Tryz.func326, Tryz.ntmps326
  go_wp2
  refine bodyPost_ret (v := .agg #[.string A.who, .int .i64 A.verb, .string ⟨#[]⟩, .string ⟨#[]⟩, .string A.tm, .slice b0 A.vs.length k0, .slice b1 A.hs.length k1, .int .i64 A.seen, .string ⟨#[]⟩, .string A.tw, .slice b2 A.vb.length k2, .string A.rk, .string A.rt, .string A.rp, .int .i64 A.num]) (by simp [results, Tryz.results326, go_sem]) rfl ⟨rfl, ?_⟩
  exact ((one_al w _).alloc (by simp) _).alloc (by simp; omega) _

set_option maxRecDepth 20000 in
set_option maxHeartbeats 4000000 in
theorem without5_any : Calls Tryz.prog 330 #[.agg #[], .agg #[.string A.who, .int .i64 A.verb, .string A.kd, .string A.nm, .string A.tm, .slice b0 A.vs.length k0, .slice b1 A.hs.length k1, .int .i64 A.seen, .string A.hold, .string A.tw, .slice b2 A.vb.length k2, .string A.rk, .string A.rt, .string A.rp, .int .i64 A.num]] w fun e w' => e = .returned (.agg #[.string A.who, .int .i64 A.verb, .string A.kd, .string A.nm, .string A.tm, .slice b0 A.vs.length k0, .slice b1 A.hs.length k1, .int .i64 A.seen, .string A.hold, .string ⟨#[]⟩, .slice none 0 0, .string ⟨#[]⟩, .string ⟨#[]⟩, .string ⟨#[]⟩, .int .i64 A.num]) ∧ Below w.heap.size w w' := by
  go_enter Tryz.func330, Tryz.ntmps330
  go_wp2
  refine bodyPost_ret (v := .agg #[.string A.who, .int .i64 A.verb, .string A.kd, .string A.nm, .string A.tm, .slice b0 A.vs.length k0, .slice b1 A.hs.length k1, .int .i64 A.seen, .string A.hold, .string ⟨#[]⟩, .slice none 0 0, .string ⟨#[]⟩, .string ⟨#[]⟩, .string ⟨#[]⟩, .int .i64 A.num]) (by simp [results, Tryz.results330, go_sem]) rfl ⟨rfl, ?_⟩
  exact ((one_al w _).alloc (by simp) _).alloc (by simp; omega) _

set_option maxRecDepth 20000 in
set_option maxHeartbeats 4000000 in
theorem without6_any : Calls Tryz.prog 334 #[.agg #[], .agg #[.string A.who, .int .i64 A.verb, .string A.kd, .string A.nm, .string A.tm, .slice b0 A.vs.length k0, .slice b1 A.hs.length k1, .int .i64 A.seen, .string A.hold, .string A.tw, .slice b2 A.vb.length k2, .string A.rk, .string A.rt, .string A.rp, .int .i64 A.num]] w fun e w' => e = .returned (.agg #[.string A.who, .int .i64 A.verb, .string A.kd, .string A.nm, .string A.tm, .slice b0 A.vs.length k0, .slice b1 A.hs.length k1, .int .i64 A.seen, .string A.hold, .string A.tw, .slice b2 A.vb.length k2, .string A.rk, .string A.rt, .string A.rp, .int .i64 0]) ∧ Below w.heap.size w w' := by
  go_enter Tryz.func334, Tryz.ntmps334
  go_wp2
  refine bodyPost_ret (v := .agg #[.string A.who, .int .i64 A.verb, .string A.kd, .string A.nm, .string A.tm, .slice b0 A.vs.length k0, .slice b1 A.hs.length k1, .int .i64 A.seen, .string A.hold, .string A.tw, .slice b2 A.vb.length k2, .string A.rk, .string A.rt, .string A.rp, .int .i64 0]) (by simp [results, Tryz.results334, go_sem]) rfl ⟨rfl, ?_⟩
  exact ((one_al w _).alloc (by simp) _).alloc (by simp; omega) _
end
end Go.Proofs.YtfohnageehneoaaGreat

namespace Go.Proofs.YtfohnageehneoaaGreat
open Go.RowKit Go.Deep

def no1 (A : Ak) : Bool := noB ⟨#[]⟩ ⟨#[]⟩ ⟨#[]⟩ 0 0 A.seen A.hold A.tw A.vb.length A.rk A.rt A.rp A.num
def no2 (A : Ak) : Bool := noB ⟨#[]⟩ ⟨#[]⟩ A.tm 0 A.hs.length 0 A.hold A.tw A.vb.length A.rk A.rt A.rp A.num
def no3 (A : Ak) : Bool := noB ⟨#[]⟩ ⟨#[]⟩ A.tm A.vs.length A.hs.length 0 A.hold A.tw A.vb.length A.rk A.rt A.rp A.num
def no4 (A : Ak) : Bool := noB ⟨#[]⟩ ⟨#[]⟩ A.tm A.vs.length A.hs.length A.seen ⟨#[]⟩ A.tw A.vb.length A.rk A.rt A.rp A.num
def no5 (A : Ak) : Bool := noB A.kd A.nm A.tm A.vs.length A.hs.length A.seen A.hold ⟨#[]⟩ 0 ⟨#[]⟩ ⟨#[]⟩ ⟨#[]⟩ A.num
def no6 (A : Ak) : Bool := noB A.kd A.nm A.tm A.vs.length A.hs.length A.seen A.hold A.tw A.vb.length A.rk A.rt A.rp 0
/-- an ask under an ok law -/
def askB (Ss : List Sh) (Ts : List Tm) (A : Ak) : Bool := nameB A.who && (if A.verb = 1 then use1 Ss Ts A && no1 A else if A.verb = 2 then use2 Ss A && no2 A else if A.verb = 3 then use3 Ss A && no3 A else if A.verb = 4 then use4 Ss A && no4 A else if A.verb = 5 then use5 A && no5 A else if A.verb = 6 then use6 A && no6 A else false)
theorem ask_1 {Ss : List Sh} {Ts : List Tm} {A : Ak} (hv : A.verb = 1) : askB Ss Ts A = (nameB A.who && (use1 Ss Ts A && no1 A)) := by unfold askB; simp [hv]
theorem ask_2 {Ss : List Sh} {Ts : List Tm} {A : Ak} (hv : A.verb = 2) : askB Ss Ts A = (nameB A.who && (use2 Ss A && no2 A)) := by unfold askB; simp [hv]
theorem ask_3 {Ss : List Sh} {Ts : List Tm} {A : Ak} (hv : A.verb = 3) : askB Ss Ts A = (nameB A.who && (use3 Ss A && no3 A)) := by unfold askB; simp [hv]
theorem ask_4 {Ss : List Sh} {Ts : List Tm} {A : Ak} (hv : A.verb = 4) : askB Ss Ts A = (nameB A.who && (use4 Ss A && no4 A)) := by unfold askB; simp [hv]
theorem ask_5 {Ss : List Sh} {Ts : List Tm} {A : Ak} (hv : A.verb = 5) : askB Ss Ts A = (nameB A.who && (use5 A && no5 A)) := by unfold askB; simp [hv]
theorem ask_6 {Ss : List Sh} {Ts : List Tm} {A : Ak} (hv : A.verb = 6) : askB Ss Ts A = (nameB A.who && (use6 A && no6 A)) := by unfold askB; simp [hv]
theorem ask_out {Ss : List Sh} {Ts : List Tm} {A : Ak} (h : inB 1 6 A.verb = false) : askB Ss Ts A = false := by
  have e : ∀ k : Int, 1 ≤ k → k ≤ 6 → ¬ A.verb = k := fun k h1 h2 hk => by
    rw [hk, inB_eq] at h
    simp at h
    omega
  unfold askB
  rw [if_neg (e 1 (by decide) (by decide)), if_neg (e 2 (by decide) (by decide)), if_neg (e 3 (by decide) (by decide)), if_neg (e 4 (by decide) (by decide)), if_neg (e 5 (by decide) (by decide)), if_neg (e 6 (by decide) (by decide)), Bool.and_false]
theorem ask_name {Ss : List Sh} {Ts : List Tm} {A : Ak} (h : nameB A.who = false) : askB Ss Ts A = false := by unfold askB; rw [h]; rfl
theorem verb_in {A : Ak} (h : inB 1 6 A.verb = true) : A.verb = 1 ∨ A.verb = 2 ∨ A.verb = 3 ∨ A.verb = 4 ∨ A.verb = 5 ∨ A.verb = 6 := by
  rw [inB_eq] at h
  simp at h
  omega
set_option maxHeartbeats 1000000 in
theorem deeds_any (w : World) : Calls Tryz.prog 195 #[] w fun e w' => e = .returned (.agg #[.nilIface, .iface 283 (.agg #[]), .iface 284 (.agg #[]), .iface 285 (.agg #[]), .iface 286 (.agg #[]), .iface 287 (.agg #[]), .iface 288 (.agg #[])]) ∧ Below w.heap.size w w' := by
  go_enter Tryz.func195, Tryz.ntmps195
  go_wp2
  refine bodyPost_ret (v := .agg #[.nilIface, .iface 283 (.agg #[]), .iface 284 (.agg #[]), .iface 285 (.agg #[]), .iface 286 (.agg #[]), .iface 287 (.agg #[]), .iface 288 (.agg #[])]) (by simp [results, Tryz.results195, go_sem]) rfl ⟨rfl, one_al _ _⟩

section
variable (sv mv tv va ha qa : Value) (Ss : List Sh) (Ms : List Md) (Ts : List Tm) (A : Ak) (w : World)

set_option maxRecDepth 20000 in
set_option maxHeartbeats 4000000 in
theorem deed1 (hl : LawAt 0 w sv mv tv Ss Ms Ts) (h : AskAt 0 w va ha qa A) (hv : A.verb = 1) (hn : nameB A.who = true) :
    Calls Tryz.prog 147 #[.agg #[sv, mv, tv], .agg #[.string A.who, .int .i64 A.verb, .string A.kd, .string A.nm, .string A.tm, va, ha, .int .i64 A.seen, .string A.hold, .string A.tw, qa, .string A.rk, .string A.rt, .string A.rp, .int .i64 A.num]] w fun e w' => e = .returned (.bool (use1 Ss Ts A && no1 A)) ∧ Below w.heap.size w w' := by
  have HL := hide hl
  have HA := hide h
  have HZ := hide h.sz
  obtain ⟨a, cap, rfl⟩ := hl.shs.form
  obtain ⟨a1, cap1, rfl⟩ := hl.mds.form
  obtain ⟨a2, cap2, rfl⟩ := hl.tms.form
  obtain ⟨b0, k0, rfl⟩ := h.vs.at.form'
  obtain ⟨b1, k1, rfl⟩ := h.hs.at.form'
  obtain ⟨b2, k2, rfl⟩ := h.vb.form
  clear hl h
  have hidx : ∀ u : World, (Instr.index 251 (.agg #[.nilIface, .iface 283 (.agg #[]), .iface 284 (.agg #[]), .iface 285 (.agg #[]), .iface 286 (.agg #[]), .iface 287 (.agg #[]), .iface 288 (.agg #[])]) (.int .i64 A.verb)).run Tryz.prog u = .ok (.iface 283 (.agg #[])) u := fun u => by rw [hv]; rfl
  have hin : inB 1 6 A.verb = true := by rw [hv]; decide
  clear hv
  go_enter Tryz.func147, Tryz.ntmps147
  go_wp2_with (first | (go_at_call 110; refine (isName_any _ _ HZ.out.who).mono ?_; rintro e w' ⟨rfl, rfl⟩) | (go_at_call 111; refine (within_any _ _ _ _).mono ?_; rintro e w' ⟨rfl, rfl⟩))
  generalize hWa : World.alloc (w.alloc _) _ = Wa
  have HB0 : Hid (Below w.heap.size w Wa) := by rw [← hWa]; exact (one_al w _).alloc (by simp) _
  have FA0 : Hid (Box Wa w.heap.size #[.slice a Ss.length cap, .slice a1 Ms.length cap1, .slice a2 Ts.length cap2]) := by rw [← hWa]; exact (Box.new _ _ _ _ rfl).on (one_al _ _)
  have FB0 : Hid (Box Wa (w.heap.size + 1) #[.string A.who, .int .i64 A.verb, .string A.kd, .string A.nm, .string A.tm, .slice b0 A.vs.length k0, .slice b1 A.hs.length k1, .int .i64 A.seen, .string A.hold, .string A.tw, .slice b2 A.vb.length k2, .string A.rk, .string A.rt, .string A.rp, .int .i64 A.num]) := by rw [← hWa]; exact Box.new _ _ _ _ (by simp)
  clear hWa
  go_region_held3 (Held2 Wa w.heap.size #[.slice a Ss.length cap, .slice a1 Ms.length cap1, .slice a2 Ts.length cap2] (w.heap.size + 1) #[.string A.who, .int .i64 A.verb, .string A.kd, .string A.nm, .string A.tm, .slice b0 A.vs.length k0, .slice b1 A.hs.length k1, .int .i64 A.seen, .string A.hold, .string A.tw, .slice b2 A.vb.length k2, .string A.rk, .string A.rt, .string A.rp, .int .i64 A.num])
    (first
      | (with_reducible exact Held2.drew FA0.out FB0.out)
      | (with_reducible exact Held2.on (by assumption) (by assumption))
      | assumption)
    (first
      | (go_at_call 195
         refine (deeds_any _).mono ?_
         rintro e w2 ⟨rfl, hb2⟩
         have HC2 : Hid (Below Wa.heap.size Wa w2) := bt ((Below.refl _ _).drew) hb2))
  all_goals
    have FA1 := hide (FA0.out.on HC2.out)
    have FB1 := hide (FB0.out.on HC2.out)
    have HB1 : Hid (Below w.heap.size w w2) := bt HB0.out HC2.out
    clear FA0 FB0 HB0 HC2 hidx
    have g0 := FA1.out.cell
    have g1 := FB1.out.cell
    go_wp2_with fail
    clear g0 g1
    refine (uses1_any _ _ _ _ _ _ Ss Ms Ts A _ (HL.out.below HB1.out) (HA.out.below HB1.out)).mono ?_
    rintro e w3 ⟨rfl, hb3⟩
    have HB3 : Hid (Below w.heap.size w w3) := bt HB1.out hb3
    have FB3 := hide (FB1.out.on hb3)
    clear hb3 FA1 FB1 HB1
    cases q1 : use1 Ss Ts A with
    | false =>
      go_wp2
      go_ret
      exact ⟨ret_bool (by rw [q1]; rfl), HB3.out⟩
    | true =>
      have g1 := FB3.out.cell
      go_wp2_with fail
      clear g1
      refine (without1_any _ _ _ _ _ _ A _).mono ?_
      rintro e w4 ⟨rfl, hb4⟩
      have HB4 : Hid (Below w.heap.size w w4) := bt HB3.out hb4
      clear hb4 FB3 HB3
      go_wp2_with fail
      refine (asksNothing_any _ _ _ _ _ _ _ _ _ _ _ _ _ _ _ _ _ _ _ _ _ _).mono ?_
      rintro e w5 ⟨rfl, hb5⟩
      have HB5 : Hid (Below w.heap.size w w5) := bt HB4.out hb5
      clear hb5 HB4
      go_wp2
      go_ret
      exact ⟨ret_bool (by rw [q1]; rfl), HB5.out⟩

set_option maxRecDepth 20000 in
set_option maxHeartbeats 4000000 in
theorem deed2 (hl : LawAt 0 w sv mv tv Ss Ms Ts) (h : AskAt 0 w va ha qa A) (hv : A.verb = 2) (hn : nameB A.who = true) :
    Calls Tryz.prog 147 #[.agg #[sv, mv, tv], .agg #[.string A.who, .int .i64 A.verb, .string A.kd, .string A.nm, .string A.tm, va, ha, .int .i64 A.seen, .string A.hold, .string A.tw, qa, .string A.rk, .string A.rt, .string A.rp, .int .i64 A.num]] w fun e w' => e = .returned (.bool (use2 Ss A && no2 A)) ∧ Below w.heap.size w w' := by
  have HL := hide hl
  have HA := hide h
  have HZ := hide h.sz
  obtain ⟨a, cap, rfl⟩ := hl.shs.form
  obtain ⟨a1, cap1, rfl⟩ := hl.mds.form
  obtain ⟨a2, cap2, rfl⟩ := hl.tms.form
  obtain ⟨b0, k0, rfl⟩ := h.vs.at.form'
  obtain ⟨b1, k1, rfl⟩ := h.hs.at.form'
  obtain ⟨b2, k2, rfl⟩ := h.vb.form
  clear hl h
  have hidx : ∀ u : World, (Instr.index 251 (.agg #[.nilIface, .iface 283 (.agg #[]), .iface 284 (.agg #[]), .iface 285 (.agg #[]), .iface 286 (.agg #[]), .iface 287 (.agg #[]), .iface 288 (.agg #[])]) (.int .i64 A.verb)).run Tryz.prog u = .ok (.iface 284 (.agg #[])) u := fun u => by rw [hv]; rfl
  have hin : inB 1 6 A.verb = true := by rw [hv]; decide
  clear hv
  go_enter Tryz.func147, Tryz.ntmps147
  go_wp2_with (first | (go_at_call 110; refine (isName_any _ _ HZ.out.who).mono ?_; rintro e w' ⟨rfl, rfl⟩) | (go_at_call 111; refine (within_any _ _ _ _).mono ?_; rintro e w' ⟨rfl, rfl⟩))
  generalize hWa : World.alloc (w.alloc _) _ = Wa
  have HB0 : Hid (Below w.heap.size w Wa) := by rw [← hWa]; exact (one_al w _).alloc (by simp) _
  have FA0 : Hid (Box Wa w.heap.size #[.slice a Ss.length cap, .slice a1 Ms.length cap1, .slice a2 Ts.length cap2]) := by rw [← hWa]; exact (Box.new _ _ _ _ rfl).on (one_al _ _)
  have FB0 : Hid (Box Wa (w.heap.size + 1) #[.string A.who, .int .i64 A.verb, .string A.kd, .string A.nm, .string A.tm, .slice b0 A.vs.length k0, .slice b1 A.hs.length k1, .int .i64 A.seen, .string A.hold, .string A.tw, .slice b2 A.vb.length k2, .string A.rk, .string A.rt, .string A.rp, .int .i64 A.num]) := by rw [← hWa]; exact Box.new _ _ _ _ (by simp)
  clear hWa
  go_region_held3 (Held2 Wa w.heap.size #[.slice a Ss.length cap, .slice a1 Ms.length cap1, .slice a2 Ts.length cap2] (w.heap.size + 1) #[.string A.who, .int .i64 A.verb, .string A.kd, .string A.nm, .string A.tm, .slice b0 A.vs.length k0, .slice b1 A.hs.length k1, .int .i64 A.seen, .string A.hold, .string A.tw, .slice b2 A.vb.length k2, .string A.rk, .string A.rt, .string A.rp, .int .i64 A.num])
    (first
      | (with_reducible exact Held2.drew FA0.out FB0.out)
      | (with_reducible exact Held2.on (by assumption) (by assumption))
      | assumption)
    (first
      | (go_at_call 195
         refine (deeds_any _).mono ?_
         rintro e w2 ⟨rfl, hb2⟩
         have HC2 : Hid (Below Wa.heap.size Wa w2) := bt ((Below.refl _ _).drew) hb2))
  all_goals
    have FA1 := hide (FA0.out.on HC2.out)
    have FB1 := hide (FB0.out.on HC2.out)
    have HB1 : Hid (Below w.heap.size w w2) := bt HB0.out HC2.out
    clear FA0 FB0 HB0 HC2 hidx
    have g0 := FA1.out.cell
    have g1 := FB1.out.cell
    go_wp2_with fail
    clear g0 g1
    refine (uses2_any _ _ _ _ _ _ Ss Ms Ts A _ (HL.out.below HB1.out) (HA.out.below HB1.out)).mono ?_
    rintro e w3 ⟨rfl, hb3⟩
    have HB3 : Hid (Below w.heap.size w w3) := bt HB1.out hb3
    have FB3 := hide (FB1.out.on hb3)
    clear hb3 FA1 FB1 HB1
    cases q1 : use2 Ss A with
    | false =>
      go_wp2
      go_ret
      exact ⟨ret_bool (by rw [q1]; rfl), HB3.out⟩
    | true =>
      have g1 := FB3.out.cell
      go_wp2_with fail
      clear g1
      refine (without2_any _ _ _ _ _ _ A _).mono ?_
      rintro e w4 ⟨rfl, hb4⟩
      have HB4 : Hid (Below w.heap.size w w4) := bt HB3.out hb4
      clear hb4 FB3 HB3
      go_wp2_with fail
      refine (asksNothing_any _ _ _ _ _ _ _ _ _ _ _ _ _ _ _ _ _ _ _ _ _ _).mono ?_
      rintro e w5 ⟨rfl, hb5⟩
      have HB5 : Hid (Below w.heap.size w w5) := bt HB4.out hb5
      clear hb5 HB4
      go_wp2
      go_ret
      exact ⟨ret_bool (by rw [q1]; rfl), HB5.out⟩

set_option maxRecDepth 20000 in
set_option maxHeartbeats 4000000 in
theorem deed3 (hl : LawAt 0 w sv mv tv Ss Ms Ts) (h : AskAt 0 w va ha qa A) (hv : A.verb = 3) (hn : nameB A.who = true) :
    Calls Tryz.prog 147 #[.agg #[sv, mv, tv], .agg #[.string A.who, .int .i64 A.verb, .string A.kd, .string A.nm, .string A.tm, va, ha, .int .i64 A.seen, .string A.hold, .string A.tw, qa, .string A.rk, .string A.rt, .string A.rp, .int .i64 A.num]] w fun e w' => e = .returned (.bool (use3 Ss A && no3 A)) ∧ Below w.heap.size w w' := by
  have HL := hide hl
  have HA := hide h
  have HZ := hide h.sz
  obtain ⟨a, cap, rfl⟩ := hl.shs.form
  obtain ⟨a1, cap1, rfl⟩ := hl.mds.form
  obtain ⟨a2, cap2, rfl⟩ := hl.tms.form
  obtain ⟨b0, k0, rfl⟩ := h.vs.at.form'
  obtain ⟨b1, k1, rfl⟩ := h.hs.at.form'
  obtain ⟨b2, k2, rfl⟩ := h.vb.form
  clear hl h
  have hidx : ∀ u : World, (Instr.index 251 (.agg #[.nilIface, .iface 283 (.agg #[]), .iface 284 (.agg #[]), .iface 285 (.agg #[]), .iface 286 (.agg #[]), .iface 287 (.agg #[]), .iface 288 (.agg #[])]) (.int .i64 A.verb)).run Tryz.prog u = .ok (.iface 285 (.agg #[])) u := fun u => by rw [hv]; rfl
  have hin : inB 1 6 A.verb = true := by rw [hv]; decide
  clear hv
  go_enter Tryz.func147, Tryz.ntmps147
  go_wp2_with (first | (go_at_call 110; refine (isName_any _ _ HZ.out.who).mono ?_; rintro e w' ⟨rfl, rfl⟩) | (go_at_call 111; refine (within_any _ _ _ _).mono ?_; rintro e w' ⟨rfl, rfl⟩))
  generalize hWa : World.alloc (w.alloc _) _ = Wa
  have HB0 : Hid (Below w.heap.size w Wa) := by rw [← hWa]; exact (one_al w _).alloc (by simp) _
  have FA0 : Hid (Box Wa w.heap.size #[.slice a Ss.length cap, .slice a1 Ms.length cap1, .slice a2 Ts.length cap2]) := by rw [← hWa]; exact (Box.new _ _ _ _ rfl).on (one_al _ _)
  have FB0 : Hid (Box Wa (w.heap.size + 1) #[.string A.who, .int .i64 A.verb, .string A.kd, .string A.nm, .string A.tm, .slice b0 A.vs.length k0, .slice b1 A.hs.length k1, .int .i64 A.seen, .string A.hold, .string A.tw, .slice b2 A.vb.length k2, .string A.rk, .string A.rt, .string A.rp, .int .i64 A.num]) := by rw [← hWa]; exact Box.new _ _ _ _ (by simp)
  clear hWa
  go_region_held3 (Held2 Wa w.heap.size #[.slice a Ss.length cap, .slice a1 Ms.length cap1, .slice a2 Ts.length cap2] (w.heap.size + 1) #[.string A.who, .int .i64 A.verb, .string A.kd, .string A.nm, .string A.tm, .slice b0 A.vs.length k0, .slice b1 A.hs.length k1, .int .i64 A.seen, .string A.hold, .string A.tw, .slice b2 A.vb.length k2, .string A.rk, .string A.rt, .string A.rp, .int .i64 A.num])
    (first
      | (with_reducible exact Held2.drew FA0.out FB0.out)
      | (with_reducible exact Held2.on (by assumption) (by assumption))
      | assumption)
    (first
      | (go_at_call 195
         refine (deeds_any _).mono ?_
         rintro e w2 ⟨rfl, hb2⟩
         have HC2 : Hid (Below Wa.heap.size Wa w2) := bt ((Below.refl _ _).drew) hb2))
  all_goals
    have FA1 := hide (FA0.out.on HC2.out)
    have FB1 := hide (FB0.out.on HC2.out)
    have HB1 : Hid (Below w.heap.size w w2) := bt HB0.out HC2.out
    clear FA0 FB0 HB0 HC2 hidx
    have g0 := FA1.out.cell
    have g1 := FB1.out.cell
    go_wp2_with fail
    clear g0 g1
    refine (uses3_any _ _ _ _ _ _ Ss Ms Ts A _ (HL.out.below HB1.out) (HA.out.below HB1.out)).mono ?_
    rintro e w3 ⟨rfl, hb3⟩
    have HB3 : Hid (Below w.heap.size w w3) := bt HB1.out hb3
    have FB3 := hide (FB1.out.on hb3)
    clear hb3 FA1 FB1 HB1
    cases q1 : use3 Ss A with
    | false =>
      go_wp2
      go_ret
      exact ⟨ret_bool (by rw [q1]; rfl), HB3.out⟩
    | true =>
      have g1 := FB3.out.cell
      go_wp2_with fail
      clear g1
      refine (without3_any _ _ _ _ _ _ A _).mono ?_
      rintro e w4 ⟨rfl, hb4⟩
      have HB4 : Hid (Below w.heap.size w w4) := bt HB3.out hb4
      clear hb4 FB3 HB3
      go_wp2_with fail
      refine (asksNothing_any _ _ _ _ _ _ _ _ _ _ _ _ _ _ _ _ _ _ _ _ _ _).mono ?_
      rintro e w5 ⟨rfl, hb5⟩
      have HB5 : Hid (Below w.heap.size w w5) := bt HB4.out hb5
      clear hb5 HB4
      go_wp2
      go_ret
      exact ⟨ret_bool (by rw [q1]; rfl), HB5.out⟩

set_option maxRecDepth 20000 in
set_option maxHeartbeats 4000000 in
theorem deed4 (hl : LawAt 0 w sv mv tv Ss Ms Ts) (h : AskAt 0 w va ha qa A) (hv : A.verb = 4) (hn : nameB A.who = true) :
    Calls Tryz.prog 147 #[.agg #[sv, mv, tv], .agg #[.string A.who, .int .i64 A.verb, .string A.kd, .string A.nm, .string A.tm, va, ha, .int .i64 A.seen, .string A.hold, .string A.tw, qa, .string A.rk, .string A.rt, .string A.rp, .int .i64 A.num]] w fun e w' => e = .returned (.bool (use4 Ss A && no4 A)) ∧ Below w.heap.size w w' := by
  have HL := hide hl
  have HA := hide h
  have HZ := hide h.sz
  obtain ⟨a, cap, rfl⟩ := hl.shs.form
  obtain ⟨a1, cap1, rfl⟩ := hl.mds.form
  obtain ⟨a2, cap2, rfl⟩ := hl.tms.form
  obtain ⟨b0, k0, rfl⟩ := h.vs.at.form'
  obtain ⟨b1, k1, rfl⟩ := h.hs.at.form'
  obtain ⟨b2, k2, rfl⟩ := h.vb.form
  clear hl h
  have hidx : ∀ u : World, (Instr.index 251 (.agg #[.nilIface, .iface 283 (.agg #[]), .iface 284 (.agg #[]), .iface 285 (.agg #[]), .iface 286 (.agg #[]), .iface 287 (.agg #[]), .iface 288 (.agg #[])]) (.int .i64 A.verb)).run Tryz.prog u = .ok (.iface 286 (.agg #[])) u := fun u => by rw [hv]; rfl
  have hin : inB 1 6 A.verb = true := by rw [hv]; decide
  clear hv
  go_enter Tryz.func147, Tryz.ntmps147
  go_wp2_with (first | (go_at_call 110; refine (isName_any _ _ HZ.out.who).mono ?_; rintro e w' ⟨rfl, rfl⟩) | (go_at_call 111; refine (within_any _ _ _ _).mono ?_; rintro e w' ⟨rfl, rfl⟩))
  generalize hWa : World.alloc (w.alloc _) _ = Wa
  have HB0 : Hid (Below w.heap.size w Wa) := by rw [← hWa]; exact (one_al w _).alloc (by simp) _
  have FA0 : Hid (Box Wa w.heap.size #[.slice a Ss.length cap, .slice a1 Ms.length cap1, .slice a2 Ts.length cap2]) := by rw [← hWa]; exact (Box.new _ _ _ _ rfl).on (one_al _ _)
  have FB0 : Hid (Box Wa (w.heap.size + 1) #[.string A.who, .int .i64 A.verb, .string A.kd, .string A.nm, .string A.tm, .slice b0 A.vs.length k0, .slice b1 A.hs.length k1, .int .i64 A.seen, .string A.hold, .string A.tw, .slice b2 A.vb.length k2, .string A.rk, .string A.rt, .string A.rp, .int .i64 A.num]) := by rw [← hWa]; exact Box.new _ _ _ _ (by simp)
  clear hWa
  go_region_held3 (Held2 Wa w.heap.size #[.slice a Ss.length cap, .slice a1 Ms.length cap1, .slice a2 Ts.length cap2] (w.heap.size + 1) #[.string A.who, .int .i64 A.verb, .string A.kd, .string A.nm, .string A.tm, .slice b0 A.vs.length k0, .slice b1 A.hs.length k1, .int .i64 A.seen, .string A.hold, .string A.tw, .slice b2 A.vb.length k2, .string A.rk, .string A.rt, .string A.rp, .int .i64 A.num])
    (first
      | (with_reducible exact Held2.drew FA0.out FB0.out)
      | (with_reducible exact Held2.on (by assumption) (by assumption))
      | assumption)
    (first
      | (go_at_call 195
         refine (deeds_any _).mono ?_
         rintro e w2 ⟨rfl, hb2⟩
         have HC2 : Hid (Below Wa.heap.size Wa w2) := bt ((Below.refl _ _).drew) hb2))
  all_goals
    have FA1 := hide (FA0.out.on HC2.out)
    have FB1 := hide (FB0.out.on HC2.out)
    have HB1 : Hid (Below w.heap.size w w2) := bt HB0.out HC2.out
    clear FA0 FB0 HB0 HC2 hidx
    have g0 := FA1.out.cell
    have g1 := FB1.out.cell
    go_wp2_with fail
    clear g0 g1
    refine (uses4_any _ _ _ _ _ _ Ss Ms Ts A _ (HL.out.below HB1.out) (HA.out.below HB1.out)).mono ?_
    rintro e w3 ⟨rfl, hb3⟩
    have HB3 : Hid (Below w.heap.size w w3) := bt HB1.out hb3
    have FB3 := hide (FB1.out.on hb3)
    clear hb3 FA1 FB1 HB1
    cases q1 : use4 Ss A with
    | false =>
      go_wp2
      go_ret
      exact ⟨ret_bool (by rw [q1]; rfl), HB3.out⟩
    | true =>
      have g1 := FB3.out.cell
      go_wp2_with fail
      clear g1
      refine (without4_any _ _ _ _ _ _ A _).mono ?_
      rintro e w4 ⟨rfl, hb4⟩
      have HB4 : Hid (Below w.heap.size w w4) := bt HB3.out hb4
      clear hb4 FB3 HB3
      go_wp2_with fail
      refine (asksNothing_any _ _ _ _ _ _ _ _ _ _ _ _ _ _ _ _ _ _ _ _ _ _).mono ?_
      rintro e w5 ⟨rfl, hb5⟩
      have HB5 : Hid (Below w.heap.size w w5) := bt HB4.out hb5
      clear hb5 HB4
      go_wp2
      go_ret
      exact ⟨ret_bool (by rw [q1]; rfl), HB5.out⟩

set_option maxRecDepth 20000 in
set_option maxHeartbeats 4000000 in
theorem deed5 (hl : LawAt 0 w sv mv tv Ss Ms Ts) (h : AskAt 0 w va ha qa A) (hv : A.verb = 5) (hn : nameB A.who = true) :
    Calls Tryz.prog 147 #[.agg #[sv, mv, tv], .agg #[.string A.who, .int .i64 A.verb, .string A.kd, .string A.nm, .string A.tm, va, ha, .int .i64 A.seen, .string A.hold, .string A.tw, qa, .string A.rk, .string A.rt, .string A.rp, .int .i64 A.num]] w fun e w' => e = .returned (.bool (use5 A && no5 A)) ∧ Below w.heap.size w w' := by
  have HL := hide hl
  have HA := hide h
  have HZ := hide h.sz
  obtain ⟨a, cap, rfl⟩ := hl.shs.form
  obtain ⟨a1, cap1, rfl⟩ := hl.mds.form
  obtain ⟨a2, cap2, rfl⟩ := hl.tms.form
  obtain ⟨b0, k0, rfl⟩ := h.vs.at.form'
  obtain ⟨b1, k1, rfl⟩ := h.hs.at.form'
  obtain ⟨b2, k2, rfl⟩ := h.vb.form
  clear hl h
  have hidx : ∀ u : World, (Instr.index 251 (.agg #[.nilIface, .iface 283 (.agg #[]), .iface 284 (.agg #[]), .iface 285 (.agg #[]), .iface 286 (.agg #[]), .iface 287 (.agg #[]), .iface 288 (.agg #[])]) (.int .i64 A.verb)).run Tryz.prog u = .ok (.iface 287 (.agg #[])) u := fun u => by rw [hv]; rfl
  have hin : inB 1 6 A.verb = true := by rw [hv]; decide
  clear hv
  go_enter Tryz.func147, Tryz.ntmps147
  go_wp2_with (first | (go_at_call 110; refine (isName_any _ _ HZ.out.who).mono ?_; rintro e w' ⟨rfl, rfl⟩) | (go_at_call 111; refine (within_any _ _ _ _).mono ?_; rintro e w' ⟨rfl, rfl⟩))
  generalize hWa : World.alloc (w.alloc _) _ = Wa
  have HB0 : Hid (Below w.heap.size w Wa) := by rw [← hWa]; exact (one_al w _).alloc (by simp) _
  have FA0 : Hid (Box Wa w.heap.size #[.slice a Ss.length cap, .slice a1 Ms.length cap1, .slice a2 Ts.length cap2]) := by rw [← hWa]; exact (Box.new _ _ _ _ rfl).on (one_al _ _)
  have FB0 : Hid (Box Wa (w.heap.size + 1) #[.string A.who, .int .i64 A.verb, .string A.kd, .string A.nm, .string A.tm, .slice b0 A.vs.length k0, .slice b1 A.hs.length k1, .int .i64 A.seen, .string A.hold, .string A.tw, .slice b2 A.vb.length k2, .string A.rk, .string A.rt, .string A.rp, .int .i64 A.num]) := by rw [← hWa]; exact Box.new _ _ _ _ (by simp)
  clear hWa
  go_region_held3 (Held2 Wa w.heap.size #[.slice a Ss.length cap, .slice a1 Ms.length cap1, .slice a2 Ts.length cap2] (w.heap.size + 1) #[.string A.who, .int .i64 A.verb, .string A.kd, .string A.nm, .string A.tm, .slice b0 A.vs.length k0, .slice b1 A.hs.length k1, .int .i64 A.seen, .string A.hold, .string A.tw, .slice b2 A.vb.length k2, .string A.rk, .string A.rt, .string A.rp, .int .i64 A.num])
    (first
      | (with_reducible exact Held2.drew FA0.out FB0.out)
      | (with_reducible exact Held2.on (by assumption) (by assumption))
      | assumption)
    (first
      | (go_at_call 195
         refine (deeds_any _).mono ?_
         rintro e w2 ⟨rfl, hb2⟩
         have HC2 : Hid (Below Wa.heap.size Wa w2) := bt ((Below.refl _ _).drew) hb2))
  all_goals
    have FA1 := hide (FA0.out.on HC2.out)
    have FB1 := hide (FB0.out.on HC2.out)
    have HB1 : Hid (Below w.heap.size w w2) := bt HB0.out HC2.out
    clear FA0 FB0 HB0 HC2 hidx
    have g0 := FA1.out.cell
    have g1 := FB1.out.cell
    go_wp2_with fail
    clear g0 g1
    refine (uses5_any _ _ _ _ _ _ Ss Ms Ts A _ (HL.out.below HB1.out) (HA.out.below HB1.out)).mono ?_
    rintro e w3 ⟨rfl, hb3⟩
    have HB3 : Hid (Below w.heap.size w w3) := bt HB1.out hb3
    have FB3 := hide (FB1.out.on hb3)
    clear hb3 FA1 FB1 HB1
    cases q1 : use5 A with
    | false =>
      go_wp2
      go_ret
      exact ⟨ret_bool (by rw [q1]; rfl), HB3.out⟩
    | true =>
      have g1 := FB3.out.cell
      go_wp2_with fail
      clear g1
      refine (without5_any _ _ _ _ _ _ A _).mono ?_
      rintro e w4 ⟨rfl, hb4⟩
      have HB4 : Hid (Below w.heap.size w w4) := bt HB3.out hb4
      clear hb4 FB3 HB3
      go_wp2_with fail
      refine (asksNothing_any _ _ _ _ _ _ _ _ _ _ _ _ _ _ _ _ _ _ _ _ _ _).mono ?_
      rintro e w5 ⟨rfl, hb5⟩
      have HB5 : Hid (Below w.heap.size w w5) := bt HB4.out hb5
      clear hb5 HB4
      go_wp2
      go_ret
      exact ⟨ret_bool (by rw [q1]; rfl), HB5.out⟩

set_option maxRecDepth 20000 in
set_option maxHeartbeats 4000000 in
theorem deed6 (hl : LawAt 0 w sv mv tv Ss Ms Ts) (h : AskAt 0 w va ha qa A) (hv : A.verb = 6) (hn : nameB A.who = true) :
    Calls Tryz.prog 147 #[.agg #[sv, mv, tv], .agg #[.string A.who, .int .i64 A.verb, .string A.kd, .string A.nm, .string A.tm, va, ha, .int .i64 A.seen, .string A.hold, .string A.tw, qa, .string A.rk, .string A.rt, .string A.rp, .int .i64 A.num]] w fun e w' => e = .returned (.bool (use6 A && no6 A)) ∧ Below w.heap.size w w' := by
  have HL := hide hl
  have HA := hide h
  have HZ := hide h.sz
  obtain ⟨a, cap, rfl⟩ := hl.shs.form
  obtain ⟨a1, cap1, rfl⟩ := hl.mds.form
  obtain ⟨a2, cap2, rfl⟩ := hl.tms.form
  obtain ⟨b0, k0, rfl⟩ := h.vs.at.form'
  obtain ⟨b1, k1, rfl⟩ := h.hs.at.form'
  obtain ⟨b2, k2, rfl⟩ := h.vb.form
  clear hl h
  have hidx : ∀ u : World, (Instr.index 251 (.agg #[.nilIface, .iface 283 (.agg #[]), .iface 284 (.agg #[]), .iface 285 (.agg #[]), .iface 286 (.agg #[]), .iface 287 (.agg #[]), .iface 288 (.agg #[])]) (.int .i64 A.verb)).run Tryz.prog u = .ok (.iface 288 (.agg #[])) u := fun u => by rw [hv]; rfl
  have hin : inB 1 6 A.verb = true := by rw [hv]; decide
  clear hv
  go_enter Tryz.func147, Tryz.ntmps147
  go_wp2_with (first | (go_at_call 110; refine (isName_any _ _ HZ.out.who).mono ?_; rintro e w' ⟨rfl, rfl⟩) | (go_at_call 111; refine (within_any _ _ _ _).mono ?_; rintro e w' ⟨rfl, rfl⟩))
  generalize hWa : World.alloc (w.alloc _) _ = Wa
  have HB0 : Hid (Below w.heap.size w Wa) := by rw [← hWa]; exact (one_al w _).alloc (by simp) _
  have FA0 : Hid (Box Wa w.heap.size #[.slice a Ss.length cap, .slice a1 Ms.length cap1, .slice a2 Ts.length cap2]) := by rw [← hWa]; exact (Box.new _ _ _ _ rfl).on (one_al _ _)
  have FB0 : Hid (Box Wa (w.heap.size + 1) #[.string A.who, .int .i64 A.verb, .string A.kd, .string A.nm, .string A.tm, .slice b0 A.vs.length k0, .slice b1 A.hs.length k1, .int .i64 A.seen, .string A.hold, .string A.tw, .slice b2 A.vb.length k2, .string A.rk, .string A.rt, .string A.rp, .int .i64 A.num]) := by rw [← hWa]; exact Box.new _ _ _ _ (by simp)
  clear hWa
  go_region_held3 (Held2 Wa w.heap.size #[.slice a Ss.length cap, .slice a1 Ms.length cap1, .slice a2 Ts.length cap2] (w.heap.size + 1) #[.string A.who, .int .i64 A.verb, .string A.kd, .string A.nm, .string A.tm, .slice b0 A.vs.length k0, .slice b1 A.hs.length k1, .int .i64 A.seen, .string A.hold, .string A.tw, .slice b2 A.vb.length k2, .string A.rk, .string A.rt, .string A.rp, .int .i64 A.num])
    (first
      | (with_reducible exact Held2.drew FA0.out FB0.out)
      | (with_reducible exact Held2.on (by assumption) (by assumption))
      | assumption)
    (first
      | (go_at_call 195
         refine (deeds_any _).mono ?_
         rintro e w2 ⟨rfl, hb2⟩
         have HC2 : Hid (Below Wa.heap.size Wa w2) := bt ((Below.refl _ _).drew) hb2))
  all_goals
    have FA1 := hide (FA0.out.on HC2.out)
    have FB1 := hide (FB0.out.on HC2.out)
    have HB1 : Hid (Below w.heap.size w w2) := bt HB0.out HC2.out
    clear FA0 FB0 HB0 HC2 hidx
    have g0 := FA1.out.cell
    have g1 := FB1.out.cell
    go_wp2_with fail
    clear g0 g1
    refine (uses6_any _ _ _ _ _ _ Ss Ms Ts A _ (HL.out.below HB1.out) (HA.out.below HB1.out)).mono ?_
    rintro e w3 ⟨rfl, hb3⟩
    have HB3 : Hid (Below w.heap.size w w3) := bt HB1.out hb3
    have FB3 := hide (FB1.out.on hb3)
    clear hb3 FA1 FB1 HB1
    cases q1 : use6 A with
    | false =>
      go_wp2
      go_ret
      exact ⟨ret_bool (by rw [q1]; rfl), HB3.out⟩
    | true =>
      have g1 := FB3.out.cell
      go_wp2_with fail
      clear g1
      refine (without6_any _ _ _ _ _ _ A _).mono ?_
      rintro e w4 ⟨rfl, hb4⟩
      have HB4 : Hid (Below w.heap.size w w4) := bt HB3.out hb4
      clear hb4 FB3 HB3
      go_wp2_with fail
      refine (asksNothing_any _ _ _ _ _ _ _ _ _ _ _ _ _ _ _ _ _ _ _ _ _ _).mono ?_
      rintro e w5 ⟨rfl, hb5⟩
      have HB5 : Hid (Below w.heap.size w w5) := bt HB4.out hb5
      clear hb5 HB4
      go_wp2
      go_ret
      exact ⟨ret_bool (by rw [q1]; rfl), HB5.out⟩

set_option maxRecDepth 20000 in
set_option maxHeartbeats 4000000 in
theorem askSound_any (hl : LawAt 0 w sv mv tv Ss Ms Ts) (h : AskAt 0 w va ha qa A) :
    Calls Tryz.prog 147 #[.agg #[sv, mv, tv], .agg #[.string A.who, .int .i64 A.verb, .string A.kd, .string A.nm, .string A.tm, va, ha, .int .i64 A.seen, .string A.hold, .string A.tw, qa, .string A.rk, .string A.rt, .string A.rp, .int .i64 A.num]] w fun e w' => e = .returned (.bool (askB Ss Ts A)) ∧ Below w.heap.size w w' := by
  cases hn : nameB A.who with
  | false =>
    rw [ask_name hn]
    have HL := hide hl
    have HA := hide h
    have HZ := hide h.sz
    obtain ⟨a, cap, rfl⟩ := hl.shs.form
    obtain ⟨a1, cap1, rfl⟩ := hl.mds.form
    obtain ⟨a2, cap2, rfl⟩ := hl.tms.form
    obtain ⟨b0, k0, rfl⟩ := h.vs.at.form'
    obtain ⟨b1, k1, rfl⟩ := h.hs.at.form'
    obtain ⟨b2, k2, rfl⟩ := h.vb.form
    clear hl h
    go_enter Tryz.func147, Tryz.ntmps147
    go_wp2_with (first | (go_at_call 110; refine (isName_any _ _ HZ.out.who).mono ?_; rintro e w' ⟨rfl, rfl⟩) | (go_at_call 111; refine (within_any _ _ _ _).mono ?_; rintro e w' ⟨rfl, rfl⟩))
    go_ret
    exact ⟨rfl, (one_al w _).alloc (by simp) _⟩
  | true =>
    cases hin : inB 1 6 A.verb with
    | false =>
      rw [ask_out hin]
      have HL := hide hl
      have HA := hide h
      have HZ := hide h.sz
      obtain ⟨a, cap, rfl⟩ := hl.shs.form
      obtain ⟨a1, cap1, rfl⟩ := hl.mds.form
      obtain ⟨a2, cap2, rfl⟩ := hl.tms.form
      obtain ⟨b0, k0, rfl⟩ := h.vs.at.form'
      obtain ⟨b1, k1, rfl⟩ := h.hs.at.form'
      obtain ⟨b2, k2, rfl⟩ := h.vb.form
      clear hl h
      go_enter Tryz.func147, Tryz.ntmps147
      go_wp2_with (first | (go_at_call 110; refine (isName_any _ _ HZ.out.who).mono ?_; rintro e w' ⟨rfl, rfl⟩) | (go_at_call 111; refine (within_any _ _ _ _).mono ?_; rintro e w' ⟨rfl, rfl⟩))
      go_ret
      exact ⟨rfl, (one_al w _).alloc (by simp) _⟩
    | true =>
      rcases verb_in hin with hv | hv | hv | hv | hv | hv
      · rw [ask_1 hv, hn, Bool.true_and]; exact deed1 sv mv tv va ha qa Ss Ms Ts A w hl h hv hn
      · rw [ask_2 hv, hn, Bool.true_and]; exact deed2 sv mv tv va ha qa Ss Ms Ts A w hl h hv hn
      · rw [ask_3 hv, hn, Bool.true_and]; exact deed3 sv mv tv va ha qa Ss Ms Ts A w hl h hv hn
      · rw [ask_4 hv, hn, Bool.true_and]; exact deed4 sv mv tv va ha qa Ss Ms Ts A w hl h hv hn
      · rw [ask_5 hv, hn, Bool.true_and]; exact deed5 sv mv tv va ha qa Ss Ms Ts A w hl h hv hn
      · rw [ask_6 hv, hn, Bool.true_and]; exact deed6 sv mv tv va ha qa Ss Ms Ts A w hl h hv hn

end
end Go.Proofs.YtfohnageehneoaaGreat

