
import Derived.Test.YthfdfdlojfdckaaGreatVAQ3
import Derived.Test.YthfdfdlojfdckaaGreatVAQ4
namespace Go.Proofs.YthfdfdlojfdckaaGreat
open Go.RowKit Go.Deep

def no1 (A : Ak) : Bool := noB ⟨#[]⟩ ⟨#[]⟩ ⟨#[]⟩ 0 0 A.seen A.hold A.tw A.vb.length A.rk A.rt A.rp A.num
def no2 (A : Ak) : Bool := noB ⟨#[]⟩ ⟨#[]⟩ A.tm 0 A.hs.length 0 A.hold A.tw A.vb.length A.rk A.rt A.rp A.num
def no3 (A : Ak) : Bool := noB ⟨#[]⟩ ⟨#[]⟩ A.tm A.vs.length A.hs.length 0 A.hold A.tw A.vb.length A.rk A.rt A.rp A.num
def no4 (A : Ak) : Bool := noB ⟨#[]⟩ ⟨#[]⟩ A.tm A.vs.length A.hs.length A.seen ⟨#[]⟩ A.tw A.vb.length A.rk A.rt A.rp A.num
def no5 (A : Ak) : Bool := noB A.kd A.nm A.tm A.vs.length A.hs.length A.seen A.hold ⟨#[]⟩ 0 ⟨#[]⟩ ⟨#[]⟩ ⟨#[]⟩ A.num
def no6 (A : Ak) : Bool := noB A.kd A.nm A.tm A.vs.length A.hs.length A.seen A.hold A.tw A.vb.length A.rk A.rt A.rp 0
/-- an ask under an ok law -/
def askB (Ss : List Sh) (Ts : List Tm) (A : Ak) : Bool := nameB A.who && (if A.verb = 1 then use1 Ss Ts A && no1 A else if A.verb = 2 then use2 Ss A && no2 A else if A.verb = 3 then use3 Ss A && no3 A else if A.verb = 4 then use4 Ss A && no4 A else if A.verb = 5 then use5 A && no5 A else if A.verb = 6 then use6 A && no6 A else false)
theorem ask_1 {Ss : List Sh} {Ts : List Tm} {A : Ak} (hv : A.verb = 1) : askB Ss Ts A = (nameB A.who && (use1 Ss Ts A && no1 A)) := by unfold askB; simp [hv]
theorem ask_2 {Ss : List Sh} {Ts : List Tm} {A : Ak} (hv : A.verb = 2) : askB Ss Ts A = (nameB A.who && (use2 Ss A && no2 A)) := by unfold askB; simp [hv]
theorem ask_3 {Ss : List Sh} {Ts : List Tm} {A : Ak} (hv : A.verb = 3) : askB Ss Ts A = (nameB A.who && (use3 Ss A && no3 A)) := by unfold askB; simp [hv]
theorem ask_4 {Ss : List Sh} {Ts : List Tm} {A : Ak} (hv : A.verb = 4) : askB Ss Ts A = (nameB A.who && (use4 Ss A && no4 A)) := by unfold askB; simp [hv]
theorem ask_5 {Ss : List Sh} {Ts : List Tm} {A : Ak} (hv : A.verb = 5) : askB Ss Ts A = (nameB A.who && (use5 A && no5 A)) := by unfold askB; simp [hv]
theorem ask_6 {Ss : List Sh} {Ts : List Tm} {A : Ak} (hv : A.verb = 6) : askB Ss Ts A = (nameB A.who && (use6 A && no6 A)) := by unfold askB; simp [hv]
theorem ask_out {Ss : List Sh} {Ts : List Tm} {A : Ak} (h : inB 1 6 A.verb = false) : askB Ss Ts A = false := by
  have e : ∀ k : Int, 1 ≤ k → k ≤ 6 → ¬ A.verb = k := fun k h1 h2 hk => by
    rw [hk, inB_eq] at h
    simp at h
    omega
  unfold askB
  rw [if_neg (e 1 (by decide) (by decide)), if_neg (e 2 (by decide) (by decide)), if_neg (e 3 (by decide) (by decide)), if_neg (e 4 (by decide) (by decide)), if_neg (e 5 (by decide) (by decide)), if_neg (e 6 (by decide) (by decide)), Bool.and_false]
theorem ask_name {Ss : List Sh} {Ts : List Tm} {A : Ak} (h : nameB A.who = false) : askB Ss Ts A = false := by unfold askB; rw [h]; rfl
theorem verb_in {A : Ak} (h : inB 1 6 A.verb = true) : A.verb = 1 ∨ A.verb = 2 ∨ A.verb = 3 ∨ A.verb = 4 ∨ A.verb = 5 ∨ A.verb = 6 := by
  rw [inB_eq] at h
  simp at h
  omega
set_option maxHeartbeats 1000000 in
theorem deeds_any (w : World) : Calls Tryz.prog 100 #[] w fun e w' => e = .returned (.agg #[.nilIface, .iface 198 (.agg #[]), .iface 199 (.agg #[]), .iface 200 (.agg #[]), .iface 201 (.agg #[]), .iface 202 (.agg #[]), .iface 203 (.agg #[])]) ∧ Below w.heap.size w w' := by
  go_enter Tryz.func100, Tryz.ntmps100
  go_wp2
  refine bodyPost_ret (v := .agg #[.nilIface, .iface 198 (.agg #[]), .iface 199 (.agg #[]), .iface 200 (.agg #[]), .iface 201 (.agg #[]), .iface 202 (.agg #[]), .iface 203 (.agg #[])]) (by simp [results, Tryz.results100, go_sem]) rfl ⟨rfl, one_al _ _⟩

section
variable (sv mv tv va ha qa : Value) (Ss : List Sh) (Ms : List Md) (Ts : List Tm) (A : Ak) (w : World)

set_option maxRecDepth 20000 in
set_option maxHeartbeats 4000000 in
theorem deed1 (hl : LawAt 0 w sv mv tv Ss Ms Ts) (h : AskAt 0 w va ha qa A) (hv : A.verb = 1) (hn : nameB A.who = true) :
    Calls Tryz.prog 52 #[.agg #[sv, mv, tv], .agg #[.string A.who, .int .i64 A.verb, .string A.kd, .string A.nm, .string A.tm, va, ha, .int .i64 A.seen, .string A.hold, .string A.tw, qa, .string A.rk, .string A.rt, .string A.rp, .int .i64 A.num]] w fun e w' => e = .returned (.bool (use1 Ss Ts A && no1 A)) ∧ Below w.heap.size w w' := by
  have HL := hide hl
  have HA := hide h
  have HZ := hide h.sz
  obtain ⟨a, cap, rfl⟩ := hl.shs.form
  obtain ⟨a1, cap1, rfl⟩ := hl.mds.form
  obtain ⟨a2, cap2, rfl⟩ := hl.tms.form
  obtain ⟨b0, k0, rfl⟩ := h.vs.at.form'
  obtain ⟨b1, k1, rfl⟩ := h.hs.at.form'
  obtain ⟨b2, k2, rfl⟩ := h.vb.form
  clear hl h
  have hidx : ∀ u : World, (Instr.index 165 (.agg #[.nilIface, .iface 198 (.agg #[]), .iface 199 (.agg #[]), .iface 200 (.agg #[]), .iface 201 (.agg #[]), .iface 202 (.agg #[]), .iface 203 (.agg #[])]) (.int .i64 A.verb)).run Tryz.prog u = .ok (.iface 198 (.agg #[])) u := fun u => by rw [hv]; rfl
  have hin : inB 1 6 A.verb = true := by rw [hv]; decide
  clear hv
  go_enter Tryz.func52, Tryz.ntmps52
  go_wp2_with (first | (go_at_call 98; refine (isName_any _ _ HZ.out.who).mono ?_; rintro e w' ⟨rfl, rfl⟩) | (go_at_call 99; refine (within_any _ _ _ _).mono ?_; rintro e w' ⟨rfl, rfl⟩))
  generalize hWa : World.alloc (w.alloc _) _ = Wa
  have HB0 : Hid (Below w.heap.size w Wa) := by rw [← hWa]; exact (one_al w _).alloc (by simp) _
  have FA0 : Hid (Box Wa w.heap.size #[.slice a Ss.length cap, .slice a1 Ms.length cap1, .slice a2 Ts.length cap2]) := by rw [← hWa]; exact (Box.new _ _ _ _ rfl).on (one_al _ _)
  have FB0 : Hid (Box Wa (w.heap.size + 1) #[.string A.who, .int .i64 A.verb, .string A.kd, .string A.nm, .string A.tm, .slice b0 A.vs.length k0, .slice b1 A.hs.length k1, .int .i64 A.seen, .string A.hold, .string A.tw, .slice b2 A.vb.length k2, .string A.rk, .string A.rt, .string A.rp, .int .i64 A.num]) := by rw [← hWa]; exact Box.new _ _ _ _ (by simp)
  clear hWa
  go_region_held3 (Held2 Wa w.heap.size #[.slice a Ss.length cap, .slice a1 Ms.length cap1, .slice a2 Ts.length cap2] (w.heap.size + 1) #[.string A.who, .int .i64 A.verb, .string A.kd, .string A.nm, .string A.tm, .slice b0 A.vs.length k0, .slice b1 A.hs.length k1, .int .i64 A.seen, .string A.hold, .string A.tw, .slice b2 A.vb.length k2, .string A.rk, .string A.rt, .string A.rp, .int .i64 A.num])
    (first
      | (with_reducible exact Held2.drew FA0.out FB0.out)
      | (with_reducible exact Held2.on (by assumption) (by assumption))
      | assumption)
    (first
      | (go_at_call 100
         refine (deeds_any _).mono ?_
         rintro e w2 ⟨rfl, hb2⟩
         have HC2 : Hid (Below Wa.heap.size Wa w2) := bt ((Below.refl _ _).drew) hb2))
  all_goals
    have FA1 := hide (FA0.out.on HC2.out)
    have FB1 := hide (FB0.out.on HC2.out)
    have HB1 : Hid (Below w.heap.size w w2) := bt HB0.out HC2.out
    clear FA0 FB0 HB0 HC2 hidx
    have g0 := FA1.out.cell
    have g1 := FB1.out.cell
    go_wp2_with fail
    clear g0 g1
    refine (uses1_any _ _ _ _ _ _ Ss Ms Ts A _ (HL.out.below HB1.out) (HA.out.below HB1.out)).mono ?_
    rintro e w3 ⟨rfl, hb3⟩
    have HB3 : Hid (Below w.heap.size w w3) := bt HB1.out hb3
    have FB3 := hide (FB1.out.on hb3)
    clear hb3 FA1 FB1 HB1
    cases q1 : use1 Ss Ts A with
    | false =>
      go_wp2
      go_ret
      exact ⟨ret_bool (by rw [q1]; rfl), HB3.out⟩
    | true =>
      have g1 := FB3.out.cell
      go_wp2_with fail
      clear g1
      refine (without1_any _ _ _ _ _ _ A _).mono ?_
      rintro e w4 ⟨rfl, hb4⟩
      have HB4 : Hid (Below w.heap.size w w4) := bt HB3.out hb4
      clear hb4 FB3 HB3
      go_wp2_with fail
      refine (asksNothing_any _ _ _ _ _ _ _ _ _ _ _ _ _ _ _ _ _ _ _ _ _ _).mono ?_
      rintro e w5 ⟨rfl, hb5⟩
      have HB5 : Hid (Below w.heap.size w w5) := bt HB4.out hb5
      clear hb5 HB4
      go_wp2
      go_ret
      exact ⟨ret_bool (by rw [q1]; rfl), HB5.out⟩

set_option maxRecDepth 20000 in
set_option maxHeartbeats 4000000 in
theorem deed2 (hl : LawAt 0 w sv mv tv Ss Ms Ts) (h : AskAt 0 w va ha qa A) (hv : A.verb = 2) (hn : nameB A.who = true) :
    Calls Tryz.prog 52 #[.agg #[sv, mv, tv], .agg #[.string A.who, .int .i64 A.verb, .string A.kd, .string A.nm, .string A.tm, va, ha, .int .i64 A.seen, .string A.hold, .string A.tw, qa, .string A.rk, .string A.rt, .string A.rp, .int .i64 A.num]] w fun e w' => e = .returned (.bool (use2 Ss A && no2 A)) ∧ Below w.heap.size w w' := by
  have HL := hide hl
  have HA := hide h
  have HZ := hide h.sz
  obtain ⟨a, cap, rfl⟩ := hl.shs.form
  obtain ⟨a1, cap1, rfl⟩ := hl.mds.form
  obtain ⟨a2, cap2, rfl⟩ := hl.tms.form
  obtain ⟨b0, k0, rfl⟩ := h.vs.at.form'
  obtain ⟨b1, k1, rfl⟩ := h.hs.at.form'
  obtain ⟨b2, k2, rfl⟩ := h.vb.form
  clear hl h
  have hidx : ∀ u : World, (Instr.index 165 (.agg #[.nilIface, .iface 198 (.agg #[]), .iface 199 (.agg #[]), .iface 200 (.agg #[]), .iface 201 (.agg #[]), .iface 202 (.agg #[]), .iface 203 (.agg #[])]) (.int .i64 A.verb)).run Tryz.prog u = .ok (.iface 199 (.agg #[])) u := fun u => by rw [hv]; rfl
  have hin : inB 1 6 A.verb = true := by rw [hv]; decide
  clear hv
  go_enter Tryz.func52, Tryz.ntmps52
  go_wp2_with (first | (go_at_call 98; refine (isName_any _ _ HZ.out.who).mono ?_; rintro e w' ⟨rfl, rfl⟩) | (go_at_call 99; refine (within_any _ _ _ _).mono ?_; rintro e w' ⟨rfl, rfl⟩))
  generalize hWa : World.alloc (w.alloc _) _ = Wa
  have HB0 : Hid (Below w.heap.size w Wa) := by rw [← hWa]; exact (one_al w _).alloc (by simp) _
  have FA0 : Hid (Box Wa w.heap.size #[.slice a Ss.length cap, .slice a1 Ms.length cap1, .slice a2 Ts.length cap2]) := by rw [← hWa]; exact (Box.new _ _ _ _ rfl).on (one_al _ _)
  have FB0 : Hid (Box Wa (w.heap.size + 1) #[.string A.who, .int .i64 A.verb, .string A.kd, .string A.nm, .string A.tm, .slice b0 A.vs.length k0, .slice b1 A.hs.length k1, .int .i64 A.seen, .string A.hold, .string A.tw, .slice b2 A.vb.length k2, .string A.rk, .string A.rt, .string A.rp, .int .i64 A.num]) := by rw [← hWa]; exact Box.new _ _ _ _ (by simp)
  clear hWa
  go_region_held3 (Held2 Wa w.heap.size #[.slice a Ss.length cap, .slice a1 Ms.length cap1, .slice a2 Ts.length cap2] (w.heap.size + 1) #[.string A.who, .int .i64 A.verb, .string A.kd, .string A.nm, .string A.tm, .slice b0 A.vs.length k0, .slice b1 A.hs.length k1, .int .i64 A.seen, .string A.hold, .string A.tw, .slice b2 A.vb.length k2, .string A.rk, .string A.rt, .string A.rp, .int .i64 A.num])
    (first
      | (with_reducible exact Held2.drew FA0.out FB0.out)
      | (with_reducible exact Held2.on (by assumption) (by assumption))
      | assumption)
    (first
      | (go_at_call 100
         refine (deeds_any _).mono ?_
         rintro e w2 ⟨rfl, hb2⟩
         have HC2 : Hid (Below Wa.heap.size Wa w2) := bt ((Below.refl _ _).drew) hb2))
  all_goals
    have FA1 := hide (FA0.out.on HC2.out)
    have FB1 := hide (FB0.out.on HC2.out)
    have HB1 : Hid (Below w.heap.size w w2) := bt HB0.out HC2.out
    clear FA0 FB0 HB0 HC2 hidx
    have g0 := FA1.out.cell
    have g1 := FB1.out.cell
    go_wp2_with fail
    clear g0 g1
    refine (uses2_any _ _ _ _ _ _ Ss Ms Ts A _ (HL.out.below HB1.out) (HA.out.below HB1.out)).mono ?_
    rintro e w3 ⟨rfl, hb3⟩
    have HB3 : Hid (Below w.heap.size w w3) := bt HB1.out hb3
    have FB3 := hide (FB1.out.on hb3)
    clear hb3 FA1 FB1 HB1
    cases q1 : use2 Ss A with
    | false =>
      go_wp2
      go_ret
      exact ⟨ret_bool (by rw [q1]; rfl), HB3.out⟩
    | true =>
      have g1 := FB3.out.cell
      go_wp2_with fail
      clear g1
      refine (without2_any _ _ _ _ _ _ A _).mono ?_
      rintro e w4 ⟨rfl, hb4⟩
      have HB4 : Hid (Below w.heap.size w w4) := bt HB3.out hb4
      clear hb4 FB3 HB3
      go_wp2_with fail
      refine (asksNothing_any _ _ _ _ _ _ _ _ _ _ _ _ _ _ _ _ _ _ _ _ _ _).mono ?_
      rintro e w5 ⟨rfl, hb5⟩
      have HB5 : Hid (Below w.heap.size w w5) := bt HB4.out hb5
      clear hb5 HB4
      go_wp2
      go_ret
      exact ⟨ret_bool (by rw [q1]; rfl), HB5.out⟩

set_option maxRecDepth 20000 in
set_option maxHeartbeats 4000000 in
theorem deed3 (hl : LawAt 0 w sv mv tv Ss Ms Ts) (h : AskAt 0 w va ha qa A) (hv : A.verb = 3) (hn : nameB A.who = true) :
    Calls Tryz.prog 52 #[.agg #[sv, mv, tv], .agg #[.string A.who, .int .i64 A.verb, .string A.kd, .string A.nm, .string A.tm, va, ha, .int .i64 A.seen, .string A.hold, .string A.tw, qa, .string A.rk, .string A.rt, .string A.rp, .int .i64 A.num]] w fun e w' => e = .returned (.bool (use3 Ss A && no3 A)) ∧ Below w.heap.size w w' := by
  have HL := hide hl
  have HA := hide h
  have HZ := hide h.sz
  obtain ⟨a, cap, rfl⟩ := hl.shs.form
  obtain ⟨a1, cap1, rfl⟩ := hl.mds.form
  obtain ⟨a2, cap2, rfl⟩ := hl.tms.form
  obtain ⟨b0, k0, rfl⟩ := h.vs.at.form'
  obtain ⟨b1, k1, rfl⟩ := h.hs.at.form'
  obtain ⟨b2, k2, rfl⟩ := h.vb.form
  clear hl h
  have hidx : ∀ u : World, (Instr.index 165 (.agg #[.nilIface, .iface 198 (.agg #[]), .iface 199 (.agg #[]), .iface 200 (.agg #[]), .iface 201 (.agg #[]), .iface 202 (.agg #[]), .iface 203 (.agg #[])]) (.int .i64 A.verb)).run Tryz.prog u = .ok (.iface 200 (.agg #[])) u := fun u => by rw [hv]; rfl
  have hin : inB 1 6 A.verb = true := by rw [hv]; decide
  clear hv
  go_enter Tryz.func52, Tryz.ntmps52
  go_wp2_with (first | (go_at_call 98; refine (isName_any _ _ HZ.out.who).mono ?_; rintro e w' ⟨rfl, rfl⟩) | (go_at_call 99; refine (within_any _ _ _ _).mono ?_; rintro e w' ⟨rfl, rfl⟩))
  generalize hWa : World.alloc (w.alloc _) _ = Wa
  have HB0 : Hid (Below w.heap.size w Wa) := by rw [← hWa]; exact (one_al w _).alloc (by simp) _
  have FA0 : Hid (Box Wa w.heap.size #[.slice a Ss.length cap, .slice a1 Ms.length cap1, .slice a2 Ts.length cap2]) := by rw [← hWa]; exact (Box.new _ _ _ _ rfl).on (one_al _ _)
  have FB0 : Hid (Box Wa (w.heap.size + 1) #[.string A.who, .int .i64 A.verb, .string A.kd, .string A.nm, .string A.tm, .slice b0 A.vs.length k0, .slice b1 A.hs.length k1, .int .i64 A.seen, .string A.hold, .string A.tw, .slice b2 A.vb.length k2, .string A.rk, .string A.rt, .string A.rp, .int .i64 A.num]) := by rw [← hWa]; exact Box.new _ _ _ _ (by simp)
  clear hWa
  go_region_held3 (Held2 Wa w.heap.size #[.slice a Ss.length cap, .slice a1 Ms.length cap1, .slice a2 Ts.length cap2] (w.heap.size + 1) #[.string A.who, .int .i64 A.verb, .string A.kd, .string A.nm, .string A.tm, .slice b0 A.vs.length k0, .slice b1 A.hs.length k1, .int .i64 A.seen, .string A.hold, .string A.tw, .slice b2 A.vb.length k2, .string A.rk, .string A.rt, .string A.rp, .int .i64 A.num])
    (first
      | (with_reducible exact Held2.drew FA0.out FB0.out)
      | (with_reducible exact Held2.on (by assumption) (by assumption))
      | assumption)
    (first
      | (go_at_call 100
         refine (deeds_any _).mono ?_
         rintro e w2 ⟨rfl, hb2⟩
         have HC2 : Hid (Below Wa.heap.size Wa w2) := bt ((Below.refl _ _).drew) hb2))
  all_goals
    have FA1 := hide (FA0.out.on HC2.out)
    have FB1 := hide (FB0.out.on HC2.out)
    have HB1 : Hid (Below w.heap.size w w2) := bt HB0.out HC2.out
    clear FA0 FB0 HB0 HC2 hidx
    have g0 := FA1.out.cell
    have g1 := FB1.out.cell
    go_wp2_with fail
    clear g0 g1
    refine (uses3_any _ _ _ _ _ _ Ss Ms Ts A _ (HL.out.below HB1.out) (HA.out.below HB1.out)).mono ?_
    rintro e w3 ⟨rfl, hb3⟩
    have HB3 : Hid (Below w.heap.size w w3) := bt HB1.out hb3
    have FB3 := hide (FB1.out.on hb3)
    clear hb3 FA1 FB1 HB1
    cases q1 : use3 Ss A with
    | false =>
      go_wp2
      go_ret
      exact ⟨ret_bool (by rw [q1]; rfl), HB3.out⟩
    | true =>
      have g1 := FB3.out.cell
      go_wp2_with fail
      clear g1
      refine (without3_any _ _ _ _ _ _ A _).mono ?_
      rintro e w4 ⟨rfl, hb4⟩
      have HB4 : Hid (Below w.heap.size w w4) := bt HB3.out hb4
      clear hb4 FB3 HB3
      go_wp2_with fail
      refine (asksNothing_any _ _ _ _ _ _ _ _ _ _ _ _ _ _ _ _ _ _ _ _ _ _).mono ?_
      rintro e w5 ⟨rfl, hb5⟩
      have HB5 : Hid (Below w.heap.size w w5) := bt HB4.out hb5
      clear hb5 HB4
      go_wp2
      go_ret
      exact ⟨ret_bool (by rw [q1]; rfl), HB5.out⟩

set_option maxRecDepth 20000 in
set_option maxHeartbeats 4000000 in
theorem deed4 (hl : LawAt 0 w sv mv tv Ss Ms Ts) (h : AskAt 0 w va ha qa A) (hv : A.verb = 4) (hn : nameB A.who = true) :
    Calls Tryz.prog 52 #[.agg #[sv, mv, tv], .agg #[.string A.who, .int .i64 A.verb, .string A.kd, .string A.nm, .string A.tm, va, ha, .int .i64 A.seen, .string A.hold, .string A.tw, qa, .string A.rk, .string A.rt, .string A.rp, .int .i64 A.num]] w fun e w' => e = .returned (.bool (use4 Ss A && no4 A)) ∧ Below w.heap.size w w' := by
  have HL := hide hl
  have HA := hide h
  have HZ := hide h.sz
  obtain ⟨a, cap, rfl⟩ := hl.shs.form
  obtain ⟨a1, cap1, rfl⟩ := hl.mds.form
  obtain ⟨a2, cap2, rfl⟩ := hl.tms.form
  obtain ⟨b0, k0, rfl⟩ := h.vs.at.form'
  obtain ⟨b1, k1, rfl⟩ := h.hs.at.form'
  obtain ⟨b2, k2, rfl⟩ := h.vb.form
  clear hl h
  have hidx : ∀ u : World, (Instr.index 165 (.agg #[.nilIface, .iface 198 (.agg #[]), .iface 199 (.agg #[]), .iface 200 (.agg #[]), .iface 201 (.agg #[]), .iface 202 (.agg #[]), .iface 203 (.agg #[])]) (.int .i64 A.verb)).run Tryz.prog u = .ok (.iface 201 (.agg #[])) u := fun u => by rw [hv]; rfl
  have hin : inB 1 6 A.verb = true := by rw [hv]; decide
  clear hv
  go_enter Tryz.func52, Tryz.ntmps52
  go_wp2_with (first | (go_at_call 98; refine (isName_any _ _ HZ.out.who).mono ?_; rintro e w' ⟨rfl, rfl⟩) | (go_at_call 99; refine (within_any _ _ _ _).mono ?_; rintro e w' ⟨rfl, rfl⟩))
  generalize hWa : World.alloc (w.alloc _) _ = Wa
  have HB0 : Hid (Below w.heap.size w Wa) := by rw [← hWa]; exact (one_al w _).alloc (by simp) _
  have FA0 : Hid (Box Wa w.heap.size #[.slice a Ss.length cap, .slice a1 Ms.length cap1, .slice a2 Ts.length cap2]) := by rw [← hWa]; exact (Box.new _ _ _ _ rfl).on (one_al _ _)
  have FB0 : Hid (Box Wa (w.heap.size + 1) #[.string A.who, .int .i64 A.verb, .string A.kd, .string A.nm, .string A.tm, .slice b0 A.vs.length k0, .slice b1 A.hs.length k1, .int .i64 A.seen, .string A.hold, .string A.tw, .slice b2 A.vb.length k2, .string A.rk, .string A.rt, .string A.rp, .int .i64 A.num]) := by rw [← hWa]; exact Box.new _ _ _ _ (by simp)
  clear hWa
  go_region_held3 (Held2 Wa w.heap.size #[.slice a Ss.length cap, .slice a1 Ms.length cap1, .slice a2 Ts.length cap2] (w.heap.size + 1) #[.string A.who, .int .i64 A.verb, .string A.kd, .string A.nm, .string A.tm, .slice b0 A.vs.length k0, .slice b1 A.hs.length k1, .int .i64 A.seen, .string A.hold, .string A.tw, .slice b2 A.vb.length k2, .string A.rk, .string A.rt, .string A.rp, .int .i64 A.num])
    (first
      | (with_reducible exact Held2.drew FA0.out FB0.out)
      | (with_reducible exact Held2.on (by assumption) (by assumption))
      | assumption)
    (first
      | (go_at_call 100
         refine (deeds_any _).mono ?_
         rintro e w2 ⟨rfl, hb2⟩
         have HC2 : Hid (Below Wa.heap.size Wa w2) := bt ((Below.refl _ _).drew) hb2))
  all_goals
    have FA1 := hide (FA0.out.on HC2.out)
    have FB1 := hide (FB0.out.on HC2.out)
    have HB1 : Hid (Below w.heap.size w w2) := bt HB0.out HC2.out
    clear FA0 FB0 HB0 HC2 hidx
    have g0 := FA1.out.cell
    have g1 := FB1.out.cell
    go_wp2_with fail
    clear g0 g1
    refine (uses4_any _ _ _ _ _ _ Ss Ms Ts A _ (HL.out.below HB1.out) (HA.out.below HB1.out)).mono ?_
    rintro e w3 ⟨rfl, hb3⟩
    have HB3 : Hid (Below w.heap.size w w3) := bt HB1.out hb3
    have FB3 := hide (FB1.out.on hb3)
    clear hb3 FA1 FB1 HB1
    cases q1 : use4 Ss A with
    | false =>
      go_wp2
      go_ret
      exact ⟨ret_bool (by rw [q1]; rfl), HB3.out⟩
    | true =>
      have g1 := FB3.out.cell
      go_wp2_with fail
      clear g1
      refine (without4_any _ _ _ _ _ _ A _).mono ?_
      rintro e w4 ⟨rfl, hb4⟩
      have HB4 : Hid (Below w.heap.size w w4) := bt HB3.out hb4
      clear hb4 FB3 HB3
      go_wp2_with fail
      refine (asksNothing_any _ _ _ _ _ _ _ _ _ _ _ _ _ _ _ _ _ _ _ _ _ _).mono ?_
      rintro e w5 ⟨rfl, hb5⟩
      have HB5 : Hid (Below w.heap.size w w5) := bt HB4.out hb5
      clear hb5 HB4
      go_wp2
      go_ret
      exact ⟨ret_bool (by rw [q1]; rfl), HB5.out⟩

set_option maxRecDepth 20000 in
set_option maxHeartbeats 4000000 in
theorem deed5 (hl : LawAt 0 w sv mv tv Ss Ms Ts) (h : AskAt 0 w va ha qa A) (hv : A.verb = 5) (hn : nameB A.who = true) :
    Calls Tryz.prog 52 #[.agg #[sv, mv, tv], .agg #[.string A.who, .int .i64 A.verb, .string A.kd, .string A.nm, .string A.tm, va, ha, .int .i64 A.seen, .string A.hold, .string A.tw, qa, .string A.rk, .string A.rt, .string A.rp, .int .i64 A.num]] w fun e w' => e = .returned (.bool (use5 A && no5 A)) ∧ Below w.heap.size w w' := by
  have HL := hide hl
  have HA := hide h
  have HZ := hide h.sz
  obtain ⟨a, cap, rfl⟩ := hl.shs.form
  obtain ⟨a1, cap1, rfl⟩ := hl.mds.form
  obtain ⟨a2, cap2, rfl⟩ := hl.tms.form
  obtain ⟨b0, k0, rfl⟩ := h.vs.at.form'
  obtain ⟨b1, k1, rfl⟩ := h.hs.at.form'
  obtain ⟨b2, k2, rfl⟩ := h.vb.form
  clear hl h
  have hidx : ∀ u : World, (Instr.index 165 (.agg #[.nilIface, .iface 198 (.agg #[]), .iface 199 (.agg #[]), .iface 200 (.agg #[]), .iface 201 (.agg #[]), .iface 202 (.agg #[]), .iface 203 (.agg #[])]) (.int .i64 A.verb)).run Tryz.prog u = .ok (.iface 202 (.agg #[])) u := fun u => by rw [hv]; rfl
  have hin : inB 1 6 A.verb = true := by rw [hv]; decide
  clear hv
  go_enter Tryz.func52, Tryz.ntmps52
  go_wp2_with (first | (go_at_call 98; refine (isName_any _ _ HZ.out.who).mono ?_; rintro e w' ⟨rfl, rfl⟩) | (go_at_call 99; refine (within_any _ _ _ _).mono ?_; rintro e w' ⟨rfl, rfl⟩))
  generalize hWa : World.alloc (w.alloc _) _ = Wa
  have HB0 : Hid (Below w.heap.size w Wa) := by rw [← hWa]; exact (one_al w _).alloc (by simp) _
  have FA0 : Hid (Box Wa w.heap.size #[.slice a Ss.length cap, .slice a1 Ms.length cap1, .slice a2 Ts.length cap2]) := by rw [← hWa]; exact (Box.new _ _ _ _ rfl).on (one_al _ _)
  have FB0 : Hid (Box Wa (w.heap.size + 1) #[.string A.who, .int .i64 A.verb, .string A.kd, .string A.nm, .string A.tm, .slice b0 A.vs.length k0, .slice b1 A.hs.length k1, .int .i64 A.seen, .string A.hold, .string A.tw, .slice b2 A.vb.length k2, .string A.rk, .string A.rt, .string A.rp, .int .i64 A.num]) := by rw [← hWa]; exact Box.new _ _ _ _ (by simp)
  clear hWa
  go_region_held3 (Held2 Wa w.heap.size #[.slice a Ss.length cap, .slice a1 Ms.length cap1, .slice a2 Ts.length cap2] (w.heap.size + 1) #[.string A.who, .int .i64 A.verb, .string A.kd, .string A.nm, .string A.tm, .slice b0 A.vs.length k0, .slice b1 A.hs.length k1, .int .i64 A.seen, .string A.hold, .string A.tw, .slice b2 A.vb.length k2, .string A.rk, .string A.rt, .string A.rp, .int .i64 A.num])
    (first
      | (with_reducible exact Held2.drew FA0.out FB0.out)
      | (with_reducible exact Held2.on (by assumption) (by assumption))
      | assumption)
    (first
      | (go_at_call 100
         refine (deeds_any _).mono ?_
         rintro e w2 ⟨rfl, hb2⟩
         have HC2 : Hid (Below Wa.heap.size Wa w2) := bt ((Below.refl _ _).drew) hb2))
  all_goals
    have FA1 := hide (FA0.out.on HC2.out)
    have FB1 := hide (FB0.out.on HC2.out)
    have HB1 : Hid (Below w.heap.size w w2) := bt HB0.out HC2.out
    clear FA0 FB0 HB0 HC2 hidx
    have g0 := FA1.out.cell
    have g1 := FB1.out.cell
    go_wp2_with fail
    clear g0 g1
    refine (uses5_any _ _ _ _ _ _ Ss Ms Ts A _ (HL.out.below HB1.out) (HA.out.below HB1.out)).mono ?_
    rintro e w3 ⟨rfl, hb3⟩
    have HB3 : Hid (Below w.heap.size w w3) := bt HB1.out hb3
    have FB3 := hide (FB1.out.on hb3)
    clear hb3 FA1 FB1 HB1
    cases q1 : use5 A with
    | false =>
      go_wp2
      go_ret
      exact ⟨ret_bool (by rw [q1]; rfl), HB3.out⟩
    | true =>
      have g1 := FB3.out.cell
      go_wp2_with fail
      clear g1
      refine (without5_any _ _ _ _ _ _ A _).mono ?_
      rintro e w4 ⟨rfl, hb4⟩
      have HB4 : Hid (Below w.heap.size w w4) := bt HB3.out hb4
      clear hb4 FB3 HB3
      go_wp2_with fail
      refine (asksNothing_any _ _ _ _ _ _ _ _ _ _ _ _ _ _ _ _ _ _ _ _ _ _).mono ?_
      rintro e w5 ⟨rfl, hb5⟩
      have HB5 : Hid (Below w.heap.size w w5) := bt HB4.out hb5
      clear hb5 HB4
      go_wp2
      go_ret
      exact ⟨ret_bool (by rw [q1]; rfl), HB5.out⟩

set_option maxRecDepth 20000 in
set_option maxHeartbeats 4000000 in
theorem deed6 (hl : LawAt 0 w sv mv tv Ss Ms Ts) (h : AskAt 0 w va ha qa A) (hv : A.verb = 6) (hn : nameB A.who = true) :
    Calls Tryz.prog 52 #[.agg #[sv, mv, tv], .agg #[.string A.who, .int .i64 A.verb, .string A.kd, .string A.nm, .string A.tm, va, ha, .int .i64 A.seen, .string A.hold, .string A.tw, qa, .string A.rk, .string A.rt, .string A.rp, .int .i64 A.num]] w fun e w' => e = .returned (.bool (use6 A && no6 A)) ∧ Below w.heap.size w w' := by
  have HL := hide hl
  have HA := hide h
  have HZ := hide h.sz
  obtain ⟨a, cap, rfl⟩ := hl.shs.form
  obtain ⟨a1, cap1, rfl⟩ := hl.mds.form
  obtain ⟨a2, cap2, rfl⟩ := hl.tms.form
  obtain ⟨b0, k0, rfl⟩ := h.vs.at.form'
  obtain ⟨b1, k1, rfl⟩ := h.hs.at.form'
  obtain ⟨b2, k2, rfl⟩ := h.vb.form
  clear hl h
  have hidx : ∀ u : World, (Instr.index 165 (.agg #[.nilIface, .iface 198 (.agg #[]), .iface 199 (.agg #[]), .iface 200 (.agg #[]), .iface 201 (.agg #[]), .iface 202 (.agg #[]), .iface 203 (.agg #[])]) (.int .i64 A.verb)).run Tryz.prog u = .ok (.iface 203 (.agg #[])) u := fun u => by rw [hv]; rfl
  have hin : inB 1 6 A.verb = true := by rw [hv]; decide
  clear hv
  go_enter Tryz.func52, Tryz.ntmps52
  go_wp2_with (first | (go_at_call 98; refine (isName_any _ _ HZ.out.who).mono ?_; rintro e w' ⟨rfl, rfl⟩) | (go_at_call 99; refine (within_any _ _ _ _).mono ?_; rintro e w' ⟨rfl, rfl⟩))
  generalize hWa : World.alloc (w.alloc _) _ = Wa
  have HB0 : Hid (Below w.heap.size w Wa) := by rw [← hWa]; exact (one_al w _).alloc (by simp) _
  have FA0 : Hid (Box Wa w.heap.size #[.slice a Ss.length cap, .slice a1 Ms.length cap1, .slice a2 Ts.length cap2]) := by rw [← hWa]; exact (Box.new _ _ _ _ rfl).on (one_al _ _)
  have FB0 : Hid (Box Wa (w.heap.size + 1) #[.string A.who, .int .i64 A.verb, .string A.kd, .string A.nm, .string A.tm, .slice b0 A.vs.length k0, .slice b1 A.hs.length k1, .int .i64 A.seen, .string A.hold, .string A.tw, .slice b2 A.vb.length k2, .string A.rk, .string A.rt, .string A.rp, .int .i64 A.num]) := by rw [← hWa]; exact Box.new _ _ _ _ (by simp)
  clear hWa
  go_region_held3 (Held2 Wa w.heap.size #[.slice a Ss.length cap, .slice a1 Ms.length cap1, .slice a2 Ts.length cap2] (w.heap.size + 1) #[.string A.who, .int .i64 A.verb, .string A.kd, .string A.nm, .string A.tm, .slice b0 A.vs.length k0, .slice b1 A.hs.length k1, .int .i64 A.seen, .string A.hold, .string A.tw, .slice b2 A.vb.length k2, .string A.rk, .string A.rt, .string A.rp, .int .i64 A.num])
    (first
      | (with_reducible exact Held2.drew FA0.out FB0.out)
      | (with_reducible exact Held2.on (by assumption) (by assumption))
      | assumption)
    (first
      | (go_at_call 100
         refine (deeds_any _).mono ?_
         rintro e w2 ⟨rfl, hb2⟩
         have HC2 : Hid (Below Wa.heap.size Wa w2) := bt ((Below.refl _ _).drew) hb2))
  all_goals
    have FA1 := hide (FA0.out.on HC2.out)
    have FB1 := hide (FB0.out.on HC2.out)
    have HB1 : Hid (Below w.heap.size w w2) := bt HB0.out HC2.out
    clear FA0 FB0 HB0 HC2 hidx
    have g0 := FA1.out.cell
    have g1 := FB1.out.cell
    go_wp2_with fail
    clear g0 g1
    refine (uses6_any _ _ _ _ _ _ Ss Ms Ts A _ (HL.out.below HB1.out) (HA.out.below HB1.out)).mono ?_
    rintro e w3 ⟨rfl, hb3⟩
    have HB3 : Hid (Below w.heap.size w w3) := bt HB1.out hb3
    have FB3 := hide (FB1.out.on hb3)
    clear hb3 FA1 FB1 HB1
    cases q1 : use6 A with
    | false =>
      go_wp2
      go_ret
      exact ⟨ret_bool (by rw [q1]; rfl), HB3.out⟩
    | true =>
      have g1 := FB3.out.cell
      go_wp2_with fail
      clear g1
      refine (without6_any _ _ _ _ _ _ A _).mono ?_
      rintro e w4 ⟨rfl, hb4⟩
      have HB4 : Hid (Below w.heap.size w w4) := bt HB3.out hb4
      clear hb4 FB3 HB3
      go_wp2_with fail
      refine (asksNothing_any _ _ _ _ _ _ _ _ _ _ _ _ _ _ _ _ _ _ _ _ _ _).mono ?_
      rintro e w5 ⟨rfl, hb5⟩
      have HB5 : Hid (Below w.heap.size w w5) := bt HB4.out hb5
      clear hb5 HB4
      go_wp2
      go_ret
      exact ⟨ret_bool (by rw [q1]; rfl), HB5.out⟩

set_option maxRecDepth 20000 in
set_option maxHeartbeats 4000000 in
theorem askSound_any (hl : LawAt 0 w sv mv tv Ss Ms Ts) (h : AskAt 0 w va ha qa A) :
    Calls Tryz.prog 52 #[.agg #[sv, mv, tv], .agg #[.string A.who, .int .i64 A.verb, .string A.kd, .string A.nm, .string A.tm, va, ha, .int .i64 A.seen, .string A.hold, .string A.tw, qa, .string A.rk, .string A.rt, .string A.rp, .int .i64 A.num]] w fun e w' => e = .returned (.bool (askB Ss Ts A)) ∧ Below w.heap.size w w' := by
  cases hn : nameB A.who with
  | false =>
    rw [ask_name hn]
    have HL := hide hl
    have HA := hide h
    have HZ := hide h.sz
    obtain ⟨a, cap, rfl⟩ := hl.shs.form
    obtain ⟨a1, cap1, rfl⟩ := hl.mds.form
    obtain ⟨a2, cap2, rfl⟩ := hl.tms.form
    obtain ⟨b0, k0, rfl⟩ := h.vs.at.form'
    obtain ⟨b1, k1, rfl⟩ := h.hs.at.form'
    obtain ⟨b2, k2, rfl⟩ := h.vb.form
    clear hl h
    go_enter Tryz.func52, Tryz.ntmps52
    go_wp2_with (first | (go_at_call 98; refine (isName_any _ _ HZ.out.who).mono ?_; rintro e w' ⟨rfl, rfl⟩) | (go_at_call 99; refine (within_any _ _ _ _).mono ?_; rintro e w' ⟨rfl, rfl⟩))
    go_ret
    exact ⟨rfl, (one_al w _).alloc (by simp) _⟩
  | true =>
    cases hin : inB 1 6 A.verb with
    | false =>
      rw [ask_out hin]
      have HL := hide hl
      have HA := hide h
      have HZ := hide h.sz
      obtain ⟨a, cap, rfl⟩ := hl.shs.form
      obtain ⟨a1, cap1, rfl⟩ := hl.mds.form
      obtain ⟨a2, cap2, rfl⟩ := hl.tms.form
      obtain ⟨b0, k0, rfl⟩ := h.vs.at.form'
      obtain ⟨b1, k1, rfl⟩ := h.hs.at.form'
      obtain ⟨b2, k2, rfl⟩ := h.vb.form
      clear hl h
      go_enter Tryz.func52, Tryz.ntmps52
      go_wp2_with (first | (go_at_call 98; refine (isName_any _ _ HZ.out.who).mono ?_; rintro e w' ⟨rfl, rfl⟩) | (go_at_call 99; refine (within_any _ _ _ _).mono ?_; rintro e w' ⟨rfl, rfl⟩))
      go_ret
      exact ⟨rfl, (one_al w _).alloc (by simp) _⟩
    | true =>
      rcases verb_in hin with hv | hv | hv | hv | hv | hv
      · rw [ask_1 hv, hn, Bool.true_and]; exact deed1 sv mv tv va ha qa Ss Ms Ts A w hl h hv hn
      · rw [ask_2 hv, hn, Bool.true_and]; exact deed2 sv mv tv va ha qa Ss Ms Ts A w hl h hv hn
      · rw [ask_3 hv, hn, Bool.true_and]; exact deed3 sv mv tv va ha qa Ss Ms Ts A w hl h hv hn
      · rw [ask_4 hv, hn, Bool.true_and]; exact deed4 sv mv tv va ha qa Ss Ms Ts A w hl h hv hn
      · rw [ask_5 hv, hn, Bool.true_and]; exact deed5 sv mv tv va ha qa Ss Ms Ts A w hl h hv hn
      · rw [ask_6 hv, hn, Bool.true_and]; exact deed6 sv mv tv va ha qa Ss Ms Ts A w hl h hv hn

set_option maxRecDepth 20000 in
set_option maxHeartbeats 4000000 in
theorem implAsk_any (hl : LawAt 0 w sv mv tv Ss Ms Ts) (h : AskAt 0 w va ha qa A) :
    Calls Tryz.prog 18 #[.agg #[sv, mv, tv], .agg #[.string A.who, .int .i64 A.verb, .string A.kd, .string A.nm, .string A.tm, va, ha, .int .i64 A.seen, .string A.hold, .string A.tw, qa, .string A.rk, .string A.rt, .string A.rp, .int .i64 A.num]] w fun e w' => e = .returned (.bool (lawB Ss Ms Ts && askB Ss Ts A)) ∧ Below w.heap.size w w' := by
  have HL := hide hl
  have HA := hide h
  have HZ := hide h.sz
  obtain ⟨a, cap, rfl⟩ := hl.shs.form
  obtain ⟨a1, cap1, rfl⟩ := hl.mds.form
  obtain ⟨a2, cap2, rfl⟩ := hl.tms.form
  obtain ⟨b0, k0, rfl⟩ := h.vs.at.form'
  obtain ⟨b1, k1, rfl⟩ := h.hs.at.form'
  obtain ⟨b2, k2, rfl⟩ := h.vb.form
  clear hl h
  go_enter Tryz.func18, Tryz.ntmps18
  go_wp2_with fail
  generalize hWa : World.alloc (w.alloc _) _ = Wa
  have HB0 : Hid (Below w.heap.size w Wa) := by rw [← hWa]; exact (one_al w _).alloc (by simp) _
  have FA0 : Hid (Box Wa w.heap.size #[.slice a Ss.length cap, .slice a1 Ms.length cap1, .slice a2 Ts.length cap2]) := by rw [← hWa]; exact (Box.new _ _ _ _ rfl).on (one_al _ _)
  have FB0 : Hid (Box Wa (w.heap.size + 1) #[.string A.who, .int .i64 A.verb, .string A.kd, .string A.nm, .string A.tm, .slice b0 A.vs.length k0, .slice b1 A.hs.length k1, .int .i64 A.seen, .string A.hold, .string A.tw, .slice b2 A.vb.length k2, .string A.rk, .string A.rt, .string A.rp, .int .i64 A.num]) := by rw [← hWa]; exact Box.new _ _ _ _ (by simp)
  clear hWa
  refine (implLawOk_any 0 _ _ _ Ss Ms Ts _ (HL.out.below HB0.out)).mono ?_
  rintro e w1 ⟨rfl, hb1⟩
  have HB1 : Hid (Below w.heap.size w w1) := bt HB0.out hb1
  have FA1 := hide (FA0.out.on hb1)
  have FB1 := hide (FB0.out.on hb1)
  clear hb1 FA0 FB0 HB0
  cases q1 : lawB Ss Ms Ts with
  | false =>
    go_wp2
    go_ret
    exact ⟨ret_bool (by rw [q1]; rfl), HB1.out⟩
  | true =>
    have g0 := FA1.out.cell
    have g1 := FB1.out.cell
    go_wp2_with fail
    clear g0 g1
    refine (askSound_any _ _ _ _ _ _ Ss Ms Ts A _ (HL.out.below HB1.out) (HA.out.below HB1.out)).mono ?_
    rintro e w2 ⟨rfl, hb2⟩
    have HB2 : Hid (Below w.heap.size w w2) := bt HB1.out hb2
    go_wp2
    go_ret
    exact ⟨ret_bool (by rw [q1]; rfl), HB2.out⟩
end
end Go.Proofs.YthfdfdlojfdckaaGreat
