
import Derived.Test.YthecacabcgaenaaIA
import Derived.Test.YthecacabcgaenaaSW
namespace Go.Proofs.Ythecacabcgaenaa
open Go.RowKit Go.Deep

/-- two boxes, above a world -/
abbrev HeldB (W0 : World) (b1 : Nat) (cs1 : Array Value) (b2 : Nat) (cs2 : Array Value) (W : World) : Prop :=
  (∀ i, W.cell? ⟨b1, i, none⟩ = cs1[i]?) ∧ (∀ i, W.cell? ⟨b2, i, none⟩ = cs2[i]?) ∧ Hid (Below W0.heap.size W0 W ∧ b1 < W0.heap.size ∧ b2 < W0.heap.size)
theorem HeldB.drew {W0 : World} {b1 b2 : Nat} {cs1 cs2 : Array Value} (h1 : Box W0 b1 cs1) (h2 : Box W0 b2 cs2) : HeldB W0 b1 cs1 b2 cs2 W0.drew := ⟨h1.cell, h2.cell, (Below.refl _ _).drew, h1.lt, h2.lt⟩
theorem HeldB.on {W0 W W' : World} {b1 b2 : Nat} {cs1 cs2 : Array Value} (h : HeldB W0 b1 cs1 b2 cs2 W) (hb : Below W.heap.size W W') : HeldB W0 b1 cs1 b2 cs2 W' := by
  obtain ⟨h1, h2, h4⟩ := h
  have hz := h4.out.1.size
  have q1 := h4.out.2.1
  have q2 := h4.out.2.2
  exact ⟨fun i => (hb.cell (p := ⟨b1, i, none⟩) (show b1 < W.heap.size by omega)).trans (h1 i), fun i => (hb.cell (p := ⟨b2, i, none⟩) (show b2 < W.heap.size by omega)).trans (h2 i), h4.out.1.trans (hb.mono hz), q1, q2⟩
def cSv (x y : Sv) : Int := cmpS x.nm y.nm
def cBe (x y : Be) : Int := cmpS x.nm y.nm
def cCp (x y : Cp) : Int := orI (cmpS x.se y.se) (cmpI x.nu y.nu)
theorem cSv_neg (x y : Sv) : decide (cSv x y < 0) = rSv x y := by
  unfold cSv rSv
  rw [Bool.eq_iff_iff, decide_eq_true_iff]
  exact cmpS_neg
theorem cBe_neg (x y : Be) : decide (cBe x y < 0) = rBe x y := by
  unfold cBe rBe
  rw [Bool.eq_iff_iff, decide_eq_true_iff]
  exact cmpS_neg
theorem cCp_neg (x y : Cp) : decide (cCp x y < 0) = aheadB x y := by
  unfold cCp aheadB orI
  rw [Bool.eq_iff_iff, decide_eq_true_iff, Bool.or_eq_true, Bool.and_eq_true, decide_eq_true_iff]
  by_cases h : cmpS x.se y.se = 0
  · rw [if_pos h, cmpI_neg]
    have h2 := cmpS_zero.1 h
    rw [h2, less_irrefl]
    simp
  · rw [if_neg h, cmpS_neg]
    have h2 : (x.se.toList == y.se.toList) = false := bytes_ne.2 fun e => h (cmpS_zero.2 e)
    rw [h2]
    simp

set_option maxHeartbeats 1000000 in
theorem cmpSv_any (x y : Sv) (w : World) :
    Calls Try.prog 61 #[.agg #[.string x.nm, .int .i64 x.ve, .bool x.gn, .int .i64 x.im, .int .i64 x.wa, .int .i64 x.dn, .int .i64 x.ov, .int .i64 x.nx, .int .i64 x.pr, .int .i64 x.ls, .int .i64 x.ms, .int .i64 x.ld, .int .i64 x.cl], .agg #[.string y.nm, .int .i64 y.ve, .bool y.gn, .int .i64 y.im, .int .i64 y.wa, .int .i64 y.dn, .int .i64 y.ov, .int .i64 y.nx, .int .i64 y.pr, .int .i64 y.ls, .int .i64 y.ms, .int .i64 y.ld, .int .i64 y.cl]] w fun e w' => e = .returned (.int .i64 (cSv x y)) ∧ Below w.heap.size w w' := by
  have HO : ∀ o o', Hid (Below w.heap.size w ((w.alloc o).alloc o')) := fun o o' => (one_al w o).alloc (by simp) o'
  go_enter Try.func61, Try.ntmps61
  go_wp2_with (go_at_call 72; refine (cmpStr_any _ _ _).mono ?_; rintro e w' ⟨rfl, rfl⟩)
  go_ret
  exact ⟨rfl, (HO _ _).out⟩

set_option maxHeartbeats 1000000 in
theorem cmpBe_any (x y : Be) (w : World) :
    Calls Try.prog 65 #[.agg #[.string x.nm, .bool x.dr], .agg #[.string y.nm, .bool y.dr]] w fun e w' => e = .returned (.int .i64 (cBe x y)) ∧ Below w.heap.size w w' := by
  have HO : ∀ o o', Hid (Below w.heap.size w ((w.alloc o).alloc o')) := fun o o' => (one_al w o).alloc (by simp) o'
  go_enter Try.func65, Try.ntmps65
  go_wp2_with (go_at_call 72; refine (cmpStr_any _ _ _).mono ?_; rintro e w' ⟨rfl, rfl⟩)
  go_ret
  exact ⟨rfl, (HO _ _).out⟩

set_option maxRecDepth 20000 in
set_option maxHeartbeats 2000000 in
theorem cmpCp_any (x y : Cp) (w : World) :
    Calls Try.prog 69 #[.agg #[.string x.se, .int .i64 x.nu, .int .i64 x.ve, .int .i64 x.im, .int .i64 x.st, .bool x.en, .string x.be], .agg #[.string y.se, .int .i64 y.nu, .int .i64 y.ve, .int .i64 y.im, .int .i64 y.st, .bool y.en, .string y.be]] w fun e w' => e = .returned (.int .i64 (cCp x y)) ∧ Below w.heap.size w w' := by
  have HO : Hid (orL [cmpS x.se y.se, cmpI x.nu y.nu] = cCp x y) := orL_two _ _
  go_enter Try.func69, Try.ntmps69
  go_wp2
  generalize hWa : (World.alloc (w.alloc _) _) = Wa
  have HBa : Hid (Below w.heap.size w Wa) := by rw [← hWa]; exact (one_al w _).alloc (by simp) _
  have FA : Hid (Box Wa w.heap.size #[.string x.se, .int .i64 x.nu, .int .i64 x.ve, .int .i64 x.im, .int .i64 x.st, .bool x.en, .string x.be]) := by rw [← hWa]; exact (Box.new _ _ _ _ rfl).on (one_al _ _)
  have FB : Hid (Box Wa (w.heap.size + 1) #[.string y.se, .int .i64 y.nu, .int .i64 y.ve, .int .i64 y.im, .int .i64 y.st, .bool y.en, .string y.be]) := by rw [← hWa]; exact Box.new _ _ _ _ (by simp)
  clear hWa
  go_region_held3 (HeldB Wa w.heap.size #[.string x.se, .int .i64 x.nu, .int .i64 x.ve, .int .i64 x.im, .int .i64 x.st, .bool x.en, .string x.be] (w.heap.size + 1) #[.string y.se, .int .i64 y.nu, .int .i64 y.ve, .int .i64 y.im, .int .i64 y.st, .bool y.en, .string y.be])
    (first
      | (with_reducible exact HeldB.drew FA.out FB.out)
      | (with_reducible exact HeldB.on (by assumption) (Below.refl _ _))
      | (with_reducible exact HeldB.on (by assumption) (one_al _ _))
      | (with_reducible exact HeldB.on (by assumption) (by assumption)))
    (first
      | (go_at_call 72
         refine (cmpStr_any _ _ _).mono ?_
         rintro e w1 ⟨rfl, rfl⟩)
      | (go_at_call 35
         refine (cmpInt_any _ _ _).mono ?_
         rintro e w1 ⟨rfl, rfl⟩)
      | (go_at_call 79
         refine (cmpOr_any _ _ _ _ [cmpS x.se y.se, cmpI x.nu y.nu] (by simp) ?_).mono ?_
         · intro i hi
           have hi' : i = 0 ∨ i = 1 := by simp at hi; omega
           rcases hi' with rfl | rfl <;> simp
         rintro e w2 ⟨rfl, rfl⟩))
  go_wp2
  go_ret
  exact ⟨ret_int HO.out, (HBa.out.trans ((one_al _ _).mono HBa.out.size)).drew⟩

end Go.Proofs.Ythecacabcgaenaa
