
import Derived.Test.YthecacabcgaenaaIK
namespace Go.Proofs.Ythecacabcgaenaa
open Go.RowKit Go.Deep Go.Maps

set_option maxRecDepth 100000 in
set_option maxHeartbeats 4000000 in
theorem svNamed_any (lo m : Nat) (sv cv bv : Value) (B : Sb) (x : Sv) (w : World) (h : SbAt lo w sv cv bv B) (hz : SvSize x) :
    Calls Try.prog 73 #[.agg #[.int .i64 B.now, sv, cv, bv, .map (some m)], .agg #[.string x.nm, .int .i64 x.ve, .bool x.gn, .int .i64 x.im, .int .i64 x.wa, .int .i64 x.dn, .int .i64 x.ov, .int .i64 x.nx, .int .i64 x.pr, .int .i64 x.ls, .int .i64 x.ms, .int .i64 x.ld, .int .i64 x.cl]] w fun e w' => e = .returned (.bool (nmB x.nm && inB 1 B.now x.ve)) ∧ Below w.heap.size w w' := by
  obtain ⟨a0, k0, rfl⟩ := h.svs.form
  obtain ⟨a1, k1, rfl⟩ := h.cps.form
  obtain ⟨a2, k2, rfl⟩ := h.bes.form
  clear h
  have s0 := hz.s0
  have HO : ∀ o o', Hid (Below w.heap.size w ((w.alloc o).alloc o')) := fun o o' => (one_al w o).alloc (by simp) o'
  go_enter Try.func73, Try.ntmps73
  cases q0 : nmB x.nm with
  | false =>
    go_wp2_with (first | (go_at_call 59; refine (within_any _ _ _ _).mono ?_; rintro e w' ⟨rfl, rfl⟩) | (go_at_call 84; refine (isName_any _ _ (by with_reducible assumption)).mono ?_; rintro e w' ⟨rfl, rfl⟩))
    go_ret
    exact ⟨ret_bool (by simp), (HO _ _).out⟩
  | true =>
    go_wp2_with (first | (go_at_call 59; refine (within_any _ _ _ _).mono ?_; rintro e w' ⟨rfl, rfl⟩) | (go_at_call 84; refine (isName_any _ _ (by with_reducible assumption)).mono ?_; rintro e w' ⟨rfl, rfl⟩))
    go_ret
    exact ⟨ret_bool (by simp), (HO _ _).out⟩

set_option maxRecDepth 100000 in
set_option maxHeartbeats 4000000 in
theorem svNumbered_any (lo m : Nat) (sv cv bv : Value) (B : Sb) (x : Sv) (w : World) (h : SbAt lo w sv cv bv B) :
    Calls Try.prog 74 #[.agg #[.int .i64 B.now, sv, cv, bv, .map (some m)], .agg #[.string x.nm, .int .i64 x.ve, .bool x.gn, .int .i64 x.im, .int .i64 x.wa, .int .i64 x.dn, .int .i64 x.ov, .int .i64 x.nx, .int .i64 x.pr, .int .i64 x.ls, .int .i64 x.ms, .int .i64 x.ld, .int .i64 x.cl]] w fun e w' => e = .returned (.bool (inB 1 1000000 x.im && inB 1 1000000 x.nx)) ∧ Below w.heap.size w w' := by
  obtain ⟨a0, k0, rfl⟩ := h.svs.form
  obtain ⟨a1, k1, rfl⟩ := h.cps.form
  obtain ⟨a2, k2, rfl⟩ := h.bes.form
  clear h
  have HO : ∀ o o', Hid (Below w.heap.size w ((w.alloc o).alloc o')) := fun o o' => (one_al w o).alloc (by simp) o'
  go_enter Try.func74, Try.ntmps74
  cases q0 : inB 1 1000000 x.im with
  | false =>
    go_wp2_with (first | (go_at_call 59; refine (within_any _ _ _ _).mono ?_; rintro e w' ⟨rfl, rfl⟩))
    go_ret
    exact ⟨ret_bool (by simp), (HO _ _).out⟩
  | true =>
    go_wp2_with (first | (go_at_call 59; refine (within_any _ _ _ _).mono ?_; rintro e w' ⟨rfl, rfl⟩))
    go_ret
    exact ⟨ret_bool (by simp), (HO _ _).out⟩

set_option maxRecDepth 100000 in
set_option maxHeartbeats 4000000 in
theorem svWanted_any (lo m : Nat) (sv cv bv : Value) (B : Sb) (x : Sv) (w : World) (h : SbAt lo w sv cv bv B) :
    Calls Try.prog 75 #[.agg #[.int .i64 B.now, sv, cv, bv, .map (some m)], .agg #[.string x.nm, .int .i64 x.ve, .bool x.gn, .int .i64 x.im, .int .i64 x.wa, .int .i64 x.dn, .int .i64 x.ov, .int .i64 x.nx, .int .i64 x.pr, .int .i64 x.ls, .int .i64 x.ms, .int .i64 x.ld, .int .i64 x.cl]] w fun e w' => e = .returned (.bool (inB 0 10 x.wa && (inB 0 10 x.dn && (inB 0 10 x.ov && (decide (0 < x.dn) || decide (0 < x.ov)))))) ∧ Below w.heap.size w w' := by
  obtain ⟨a0, k0, rfl⟩ := h.svs.form
  obtain ⟨a1, k1, rfl⟩ := h.cps.form
  obtain ⟨a2, k2, rfl⟩ := h.bes.form
  clear h
  have HO : ∀ o o', Hid (Below w.heap.size w ((w.alloc o).alloc o')) := fun o o' => (one_al w o).alloc (by simp) o'
  go_enter Try.func75, Try.ntmps75
  cases q0 : inB 0 10 x.wa with
  | false =>
    go_wp2_with (first | (go_at_call 59; refine (within_any _ _ _ _).mono ?_; rintro e w' ⟨rfl, rfl⟩))
    go_ret
    exact ⟨ret_bool (by simp), (HO _ _).out⟩
  | true =>
    cases q1 : inB 0 10 x.dn with
    | false =>
      go_wp2_with (first | (go_at_call 59; refine (within_any _ _ _ _).mono ?_; rintro e w' ⟨rfl, rfl⟩))
      go_ret
      exact ⟨ret_bool (by simp), (HO _ _).out⟩
    | true =>
      cases q2 : inB 0 10 x.ov with
      | false =>
        go_wp2_with (first | (go_at_call 59; refine (within_any _ _ _ _).mono ?_; rintro e w' ⟨rfl, rfl⟩))
        go_ret
        exact ⟨ret_bool (by simp), (HO _ _).out⟩
      | true =>
        cases q3 : decide (0 < x.dn) with
        | false =>
          go_wp2_with (first | (go_at_call 59; refine (within_any _ _ _ _).mono ?_; rintro e w' ⟨rfl, rfl⟩))
          go_ret
          exact ⟨ret_bool (by simp), (HO _ _).out⟩
        | true =>
          go_wp2_with (first | (go_at_call 59; refine (within_any _ _ _ _).mono ?_; rintro e w' ⟨rfl, rfl⟩))
          go_ret
          exact ⟨ret_bool (by simp), (HO _ _).out⟩

set_option maxRecDepth 100000 in
set_option maxHeartbeats 4000000 in
theorem svScaled_any (lo m : Nat) (sv cv bv : Value) (B : Sb) (x : Sv) (w : World) (h : SbAt lo w sv cv bv B) :
    Calls Try.prog 76 #[.agg #[.int .i64 B.now, sv, cv, bv, .map (some m)], .agg #[.string x.nm, .int .i64 x.ve, .bool x.gn, .int .i64 x.im, .int .i64 x.wa, .int .i64 x.dn, .int .i64 x.ov, .int .i64 x.nx, .int .i64 x.pr, .int .i64 x.ls, .int .i64 x.ms, .int .i64 x.ld, .int .i64 x.cl]] w fun e w' => e = .returned (.bool (inB 0 1000000 x.pr && (inB 0 1000000 x.ld && (inB 0 10 x.ms && (inB 0 x.ms x.ls && inB 0 3 x.cl))))) ∧ Below w.heap.size w w' := by
  obtain ⟨a0, k0, rfl⟩ := h.svs.form
  obtain ⟨a1, k1, rfl⟩ := h.cps.form
  obtain ⟨a2, k2, rfl⟩ := h.bes.form
  clear h
  have HO : ∀ o o', Hid (Below w.heap.size w ((w.alloc o).alloc o')) := fun o o' => (one_al w o).alloc (by simp) o'
  go_enter Try.func76, Try.ntmps76
  cases q0 : inB 0 1000000 x.pr with
  | false =>
    go_wp2_with (first | (go_at_call 59; refine (within_any _ _ _ _).mono ?_; rintro e w' ⟨rfl, rfl⟩))
    go_ret
    exact ⟨ret_bool (by simp), (HO _ _).out⟩
  | true =>
    cases q1 : inB 0 1000000 x.ld with
    | false =>
      go_wp2_with (first | (go_at_call 59; refine (within_any _ _ _ _).mono ?_; rintro e w' ⟨rfl, rfl⟩))
      go_ret
      exact ⟨ret_bool (by simp), (HO _ _).out⟩
    | true =>
      cases q2 : inB 0 10 x.ms with
      | false =>
        go_wp2_with (first | (go_at_call 59; refine (within_any _ _ _ _).mono ?_; rintro e w' ⟨rfl, rfl⟩))
        go_ret
        exact ⟨ret_bool (by simp), (HO _ _).out⟩
      | true =>
        cases q3 : inB 0 x.ms x.ls with
        | false =>
          go_wp2_with (first | (go_at_call 59; refine (within_any _ _ _ _).mono ?_; rintro e w' ⟨rfl, rfl⟩))
          go_ret
          exact ⟨ret_bool (by simp), (HO _ _).out⟩
        | true =>
          go_wp2_with (first | (go_at_call 59; refine (within_any _ _ _ _).mono ?_; rintro e w' ⟨rfl, rfl⟩))
          go_ret
          exact ⟨ret_bool (by simp), (HO _ _).out⟩

set_option maxRecDepth 100000 in
set_option maxHeartbeats 4000000 in
theorem svStill_any (lo m : Nat) (sv cv bv : Value) (B : Sb) (x : Sv) (w : World) (h : SbAt lo w sv cv bv B) :
    Calls Try.prog 77 #[.agg #[.int .i64 B.now, sv, cv, bv, .map (some m)], .agg #[.string x.nm, .int .i64 x.ve, .bool x.gn, .int .i64 x.im, .int .i64 x.wa, .int .i64 x.dn, .int .i64 x.ov, .int .i64 x.nx, .int .i64 x.pr, .int .i64 x.ls, .int .i64 x.ms, .int .i64 x.ld, .int .i64 x.cl]] w fun e w' => e = .returned (.bool (decide (0 < x.pr) || ((x.ls == 0) && ((x.ms == 0) && ((x.ld == 0) && (x.cl == 0)))))) ∧ Below w.heap.size w w' := by
  obtain ⟨a0, k0, rfl⟩ := h.svs.form
  obtain ⟨a1, k1, rfl⟩ := h.cps.form
  obtain ⟨a2, k2, rfl⟩ := h.bes.form
  clear h
  have HO : ∀ o o', Hid (Below w.heap.size w ((w.alloc o).alloc o')) := fun o o' => (one_al w o).alloc (by simp) o'
  go_enter Try.func77, Try.ntmps77
  cases q0 : decide (0 < x.pr) with
  | false =>
    cases q1 : (x.ls == 0) with
    | false =>
      go_wp2_with (first | (go_at_call 59; refine (within_any _ _ _ _).mono ?_; rintro e w' ⟨rfl, rfl⟩))
      go_ret
      exact ⟨ret_bool (by simp), (HO _ _).out⟩
    | true =>
      cases q2 : (x.ms == 0) with
      | false =>
        go_wp2_with (first | (go_at_call 59; refine (within_any _ _ _ _).mono ?_; rintro e w' ⟨rfl, rfl⟩))
        go_ret
        exact ⟨ret_bool (by simp), (HO _ _).out⟩
      | true =>
        cases q3 : (x.ld == 0) with
        | false =>
          go_wp2_with (first | (go_at_call 59; refine (within_any _ _ _ _).mono ?_; rintro e w' ⟨rfl, rfl⟩))
          go_ret
          exact ⟨ret_bool (by simp), (HO _ _).out⟩
        | true =>
          go_wp2_with (first | (go_at_call 59; refine (within_any _ _ _ _).mono ?_; rintro e w' ⟨rfl, rfl⟩))
          go_ret
          exact ⟨ret_bool (by simp), (HO _ _).out⟩
  | true =>
    go_wp2_with (first | (go_at_call 59; refine (within_any _ _ _ _).mono ?_; rintro e w' ⟨rfl, rfl⟩))
    go_ret
    exact ⟨ret_bool (by simp), (HO _ _).out⟩

set_option maxRecDepth 100000 in
set_option maxHeartbeats 4000000 in
theorem beNamed_any (lo m : Nat) (sv cv bv : Value) (B : Sb) (x : Be) (w : World) (h : SbAt lo w sv cv bv B) (hz : BeSize x) :
    Calls Try.prog 78 #[.agg #[.int .i64 B.now, sv, cv, bv, .map (some m)], .agg #[.string x.nm, .bool x.dr]] w fun e w' => e = .returned (.bool (nmB x.nm)) ∧ Below w.heap.size w w' := by
  obtain ⟨a0, k0, rfl⟩ := h.svs.form
  obtain ⟨a1, k1, rfl⟩ := h.cps.form
  obtain ⟨a2, k2, rfl⟩ := h.bes.form
  clear h
  have s0 := hz.s0
  have HO : ∀ o o', Hid (Below w.heap.size w ((w.alloc o).alloc o')) := fun o o' => (one_al w o).alloc (by simp) o'
  go_enter Try.func78, Try.ntmps78
  go_wp2_with (first | (go_at_call 59; refine (within_any _ _ _ _).mono ?_; rintro e w' ⟨rfl, rfl⟩) | (go_at_call 84; refine (isName_any _ _ (by with_reducible assumption)).mono ?_; rintro e w' ⟨rfl, rfl⟩))
  go_ret
  exact ⟨ret_bool (by simp), (HO _ _).out⟩

set_option maxRecDepth 100000 in
set_option maxHeartbeats 4000000 in
theorem cpNumbered_any (lo m : Nat) (sv cv bv : Value) (B : Sb) (x : Cp) (w : World) (h : SbAt lo w sv cv bv B) :
    Calls Try.prog 81 #[.agg #[.int .i64 B.now, sv, cv, bv, .map (some m)], .agg #[.string x.se, .int .i64 x.nu, .int .i64 x.ve, .int .i64 x.im, .int .i64 x.st, .bool x.en, .string x.be]] w fun e w' => e = .returned (.bool (inB 1 B.now x.ve && (inB 1 1000000 x.im && inB 1 4 x.st))) ∧ Below w.heap.size w w' := by
  obtain ⟨a0, k0, rfl⟩ := h.svs.form
  obtain ⟨a1, k1, rfl⟩ := h.cps.form
  obtain ⟨a2, k2, rfl⟩ := h.bes.form
  clear h
  have HO : ∀ o o', Hid (Below w.heap.size w ((w.alloc o).alloc o')) := fun o o' => (one_al w o).alloc (by simp) o'
  go_enter Try.func81, Try.ntmps81
  cases q0 : inB 1 B.now x.ve with
  | false =>
    go_wp2_with (first | (go_at_call 59; refine (within_any _ _ _ _).mono ?_; rintro e w' ⟨rfl, rfl⟩))
    go_ret
    exact ⟨ret_bool (by simp), (HO _ _).out⟩
  | true =>
    cases q1 : inB 1 1000000 x.im with
    | false =>
      go_wp2_with (first | (go_at_call 59; refine (within_any _ _ _ _).mono ?_; rintro e w' ⟨rfl, rfl⟩))
      go_ret
      exact ⟨ret_bool (by simp), (HO _ _).out⟩
    | true =>
      go_wp2_with (first | (go_at_call 59; refine (within_any _ _ _ _).mono ?_; rintro e w' ⟨rfl, rfl⟩))
      go_ret
      exact ⟨ret_bool (by simp), (HO _ _).out⟩

end Go.Proofs.Ythecacabcgaenaa
