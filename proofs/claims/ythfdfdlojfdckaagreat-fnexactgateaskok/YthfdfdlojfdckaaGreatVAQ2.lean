import Derived.Test.YthfdfdlojfdckaaGreatVAQ
import Derived.Test.YthfdfdlojfdckaaGreatVH7
import Derived.Test.YthfdfdlojfdckaaGreatVDA
import Derived.Test.YthfdfdlojfdckaaGreatVTA
import Derived.Test.YthfdfdlojfdckaaGreatVAK
import Derived.Test.YthfdfdlojfdckaaGreatVB1
import Derived.Test.YthfdfdlojfdckaaGreatVA1
import Derived.Test.YthfdfdlojfdckaaGreatVTD
import Derived.Test.YthfdfdlojfdckaaGreatVLA
namespace Go.Proofs.YthfdfdlojfdckaaGreat
open Go.RowKit Go.Deep

theorem place_geq (Ts : List Tm) (s : ByteArray) : decide (0 ≤ placeT Ts s) = hasT Ts s := by
  have h := placeT_neg Ts s
  cases hh : hasT Ts s with
  | false =>
    rw [hh] at h
    simp at h ⊢
    omega
  | true =>
    rw [hh] at h
    simp at h ⊢
    omega
def namesB (Ss : List Sh) (A : Ak) : Bool := (shOf Ss A.kd).isSome && nameB A.nm
def valsB (Ss : List Sh) (A : Ak) : Bool := match shOf Ss A.kd with
  | some x => decide (A.vs.length = x.fields.length)
  | none => false
theorem vals_some {Ss : List Sh} {A : Ak} {x : Sh} (h : shOf Ss A.kd = some x) : valsB Ss A = decide (A.vs.length = x.fields.length) := by unfold valsB; rw [h]
theorem vals_none {Ss : List Sh} {A : Ak} (h : shOf Ss A.kd = none) : valsB Ss A = false := by unfold valsB; rw [h]
theorem names_some {Ss : List Sh} {A : Ak} {x : Sh} (h : shOf Ss A.kd = some x) : namesB Ss A = nameB A.nm := by unfold namesB; rw [h]; rfl
theorem names_none {Ss : List Sh} {A : Ak} (h : shOf Ss A.kd = none) : namesB Ss A = false := by unfold namesB; rw [h]; rfl
def use1 (Ss : List Sh) (Ts : List Tm) (A : Ak) : Bool := namesB Ss A && (valsB Ss A && (hasT Ts A.tm && (decide (A.hs.length ≤ 3) && ascB A.hs)))
def use2 (Ss : List Sh) (A : Ak) : Bool := namesB Ss A && (valsB Ss A && decide (0 ≤ A.seen))
def use3 (Ss : List Sh) (A : Ak) : Bool := namesB Ss A && decide (0 ≤ A.seen)
def use4 (Ss : List Sh) (A : Ak) : Bool := namesB Ss A && nameB A.hold
def use5 (A : Ak) : Bool := nameB A.tw && ruleB A.ru
def use6 (A : Ak) : Bool := decide (1 ≤ A.num)

theorem int_le3 (n : Nat) : decide ((n : Int) ≤ 3) = decide (n ≤ 3) := by
  by_cases h : n ≤ 3
  · rw [decide_eq_true h]; simp; omega
  · rw [decide_eq_false h]; simp; omega
theorem nat_beq (n m : Nat) : ((n : Int) == (m : Int)) = decide (n = m) := by
  by_cases h : n = m
  · subst h; simp
  · rw [decide_eq_false h]; simp; omega

section
variable (sv mv tv va ha qa : Value) (Ss : List Sh) (Ms : List Md) (Ts : List Tm) (A : Ak) (w : World)

set_option maxRecDepth 20000 in
set_option maxHeartbeats 4000000 in
theorem namesObject_any (hl : LawAt 0 w sv mv tv Ss Ms Ts) (h : AskAt 0 w va ha qa A) :
    Calls Tryz.prog 258 #[.agg #[sv, mv, tv], .agg #[.string A.who, .int .i64 A.verb, .string A.kd, .string A.nm, .string A.tm, va, ha, .int .i64 A.seen, .string A.hold, .string A.tw, qa, .string A.rk, .string A.rt, .string A.rp, .int .i64 A.num]] w fun e w' => e = .returned (.bool (namesB Ss A)) ∧ Below w.heap.size w w' := by
  have HL := hide hl
  have HA := hide h
  have HZ := hide h.sz
  obtain ⟨a, cap, rfl⟩ := hl.shs.form
  obtain ⟨a1, cap1, rfl⟩ := hl.mds.form
  obtain ⟨a2, cap2, rfl⟩ := hl.tms.form
  obtain ⟨b0, k0, rfl⟩ := h.vs.at.form'
  obtain ⟨b1, k1, rfl⟩ := h.hs.at.form'
  obtain ⟨b2, k2, rfl⟩ := h.vb.form
  clear hl h
  go_enter Tryz.func258, Tryz.ntmps258
  go_wp2_with fail
  generalize hWa : World.alloc (w.alloc _) _ = Wa
  have HB0 : Hid (Below w.heap.size w Wa) := by rw [← hWa]; exact (one_al w _).alloc (by simp) _
  have FA0 : Hid (Box Wa w.heap.size #[.slice a Ss.length cap, .slice a1 Ms.length cap1, .slice a2 Ts.length cap2]) := by rw [← hWa]; exact (Box.new _ _ _ _ rfl).on (one_al _ _)
  have FB0 : Hid (Box Wa (w.heap.size + 1) #[.string A.who, .int .i64 A.verb, .string A.kd, .string A.nm, .string A.tm, .slice b0 A.vs.length k0, .slice b1 A.hs.length k1, .int .i64 A.seen, .string A.hold, .string A.tw, .slice b2 A.vb.length k2, .string A.rk, .string A.rt, .string A.rp, .int .i64 A.num]) := by rw [← hWa]; exact Box.new _ _ _ _ (by simp)
  clear hWa
  refine (shapeOf_any 0 _ Ss A.kd _ (HL.out.below HB0.out).shs).mono ?_
  rintro e w1 ⟨hb1, hsh⟩
  have HB1 : Hid (Below w.heap.size w w1) := bt HB0.out hb1
  have FB1 := hide (FB0.out.on hb1)
  clear hb1 FA0 FB0 HB0
  have hlt := FB1.out.lt
  have c3 : ∀ o, (w1.alloc o).cell? ⟨w.heap.size + 1, 3, none⟩ = some (.string A.nm) := fun o => (cell_alloc_lt _ _ _ _ hlt).trans ((FB1.out.cell 3).trans (by simp))
  have c5 : ∀ o, (w1.alloc o).cell? ⟨w.heap.size + 1, 5, none⟩ = some (.slice b0 A.vs.length k0) := fun o => (cell_alloc_lt _ _ _ _ hlt).trans ((FB1.out.cell 5).trans (by simp))
  have hsn : A.nm.size ≤ maxLen := HZ.out.nm
  rcases hsh with ⟨x, fv, hx, rfl, hf⟩ | ⟨hx, rfl⟩
  · obtain ⟨fa, fc, rfl⟩ := hf.form
    have HR := hide (names_some hx)
    clear hf hx
    go_wp2_with (go_at_call 98; refine (isName_any _ _ (by with_reducible assumption)).mono ?_; rintro e w' ⟨rfl, rfl⟩)
    go_ret
    exact ⟨ret_bool (by rw [HR.out]), bt HB1.out (one_al _ _)⟩
  · have HR := hide (names_none hx)
    clear hx
    go_wp2
    go_ret
    exact ⟨ret_bool (by rw [HR.out]), bt HB1.out (one_al _ _)⟩

set_option maxRecDepth 20000 in
set_option maxHeartbeats 4000000 in
theorem asksValues_any (hl : LawAt 0 w sv mv tv Ss Ms Ts) (h : AskAt 0 w va ha qa A) :
    Calls Tryz.prog 259 #[.agg #[sv, mv, tv], .agg #[.string A.who, .int .i64 A.verb, .string A.kd, .string A.nm, .string A.tm, va, ha, .int .i64 A.seen, .string A.hold, .string A.tw, qa, .string A.rk, .string A.rt, .string A.rp, .int .i64 A.num]] w fun e w' => e = .returned (.bool (valsB Ss A)) ∧ Below w.heap.size w w' := by
  have HL := hide hl
  have HA := hide h
  have HZ := hide h.sz
  obtain ⟨a, cap, rfl⟩ := hl.shs.form
  obtain ⟨a1, cap1, rfl⟩ := hl.mds.form
  obtain ⟨a2, cap2, rfl⟩ := hl.tms.form
  obtain ⟨b0, k0, rfl⟩ := h.vs.at.form'
  obtain ⟨b1, k1, rfl⟩ := h.hs.at.form'
  obtain ⟨b2, k2, rfl⟩ := h.vb.form
  clear hl h
  go_enter Tryz.func259, Tryz.ntmps259
  go_wp2_with fail
  generalize hWa : World.alloc (w.alloc _) _ = Wa
  have HB0 : Hid (Below w.heap.size w Wa) := by rw [← hWa]; exact (one_al w _).alloc (by simp) _
  have FA0 : Hid (Box Wa w.heap.size #[.slice a Ss.length cap, .slice a1 Ms.length cap1, .slice a2 Ts.length cap2]) := by rw [← hWa]; exact (Box.new _ _ _ _ rfl).on (one_al _ _)
  have FB0 : Hid (Box Wa (w.heap.size + 1) #[.string A.who, .int .i64 A.verb, .string A.kd, .string A.nm, .string A.tm, .slice b0 A.vs.length k0, .slice b1 A.hs.length k1, .int .i64 A.seen, .string A.hold, .string A.tw, .slice b2 A.vb.length k2, .string A.rk, .string A.rt, .string A.rp, .int .i64 A.num]) := by rw [← hWa]; exact Box.new _ _ _ _ (by simp)
  clear hWa
  refine (shapeOf_any 0 _ Ss A.kd _ (HL.out.below HB0.out).shs).mono ?_
  rintro e w1 ⟨hb1, hsh⟩
  have HB1 : Hid (Below w.heap.size w w1) := bt HB0.out hb1
  have FB1 := hide (FB0.out.on hb1)
  clear hb1 FA0 FB0 HB0
  have hlt := FB1.out.lt
  have c3 : ∀ o, (w1.alloc o).cell? ⟨w.heap.size + 1, 3, none⟩ = some (.string A.nm) := fun o => (cell_alloc_lt _ _ _ _ hlt).trans ((FB1.out.cell 3).trans (by simp))
  have c5 : ∀ o, (w1.alloc o).cell? ⟨w.heap.size + 1, 5, none⟩ = some (.slice b0 A.vs.length k0) := fun o => (cell_alloc_lt _ _ _ _ hlt).trans ((FB1.out.cell 5).trans (by simp))
  have hsn : A.nm.size ≤ maxLen := HZ.out.nm
  rcases hsh with ⟨x, fv, hx, rfl, hf⟩ | ⟨hx, rfl⟩
  · obtain ⟨fa, fc, rfl⟩ := hf.form
    have HR := hide (vals_some hx)
    clear hf hx
    go_wp2_with (go_at_call 98; refine (isName_any _ _ (by with_reducible assumption)).mono ?_; rintro e w' ⟨rfl, rfl⟩)
    go_ret
    exact ⟨ret_bool (by rw [HR.out]; exact nat_beq _ _), bt HB1.out (one_al _ _)⟩
  · have HR := hide (vals_none hx)
    clear hx
    go_wp2
    go_ret
    exact ⟨ret_bool (by rw [HR.out]), bt HB1.out (one_al _ _)⟩
end
end Go.Proofs.YthfdfdlojfdckaaGreat

