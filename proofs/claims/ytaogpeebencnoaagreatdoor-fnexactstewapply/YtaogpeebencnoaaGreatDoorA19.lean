import Derived.Test.YtaogpeebencnoaaGreatDoorA16
import Derived.Test.YtaogpeebencnoaaGreatDoorA18
import Derived.ProofKit
import Derived.Deep.Strs
import Derived.Deep.RegionHeld
import Derived.ChangeSlices
namespace Go.Proofs.YtaogpeebencnoaaGreatDoor
open Go.RowKit Go.Deep

/-- two boxes, above a world -/
abbrev HeldB (W0 : World) (b1 : Nat) (cs1 : Array Value) (b2 : Nat) (cs2 : Array Value) (W : World) : Prop :=
  (∀ i, W.cell? ⟨b1, i, none⟩ = cs1[i]?) ∧ (∀ i, W.cell? ⟨b2, i, none⟩ = cs2[i]?) ∧ Hid (Below W0.heap.size W0 W ∧ b1 < W0.heap.size ∧ b2 < W0.heap.size)
theorem HeldB.drew {W0 : World} {b1 b2 : Nat} {cs1 cs2 : Array Value} (h1 : Box W0 b1 cs1) (h2 : Box W0 b2 cs2) : HeldB W0 b1 cs1 b2 cs2 W0.drew := ⟨h1.cell, h2.cell, (Below.refl _ _).drew, h1.lt, h2.lt⟩
theorem HeldB.on {W0 W W' : World} {b1 b2 : Nat} {cs1 cs2 : Array Value} (h : HeldB W0 b1 cs1 b2 cs2 W) (hb : Below W.heap.size W W') : HeldB W0 b1 cs1 b2 cs2 W' := by
  obtain ⟨h1, h2, h4⟩ := h
  have hz := h4.out.1.size
  have q1 := h4.out.2.1
  have q2 := h4.out.2.2
  exact ⟨fun i => (hb.cell (p := ⟨b1, i, none⟩) (show b1 < W.heap.size by omega)).trans (h1 i), fun i => (hb.cell (p := ⟨b2, i, none⟩) (show b2 < W.heap.size by omega)).trans (h2 i), h4.out.1.trans (hb.mono hz), q1, q2⟩
def cSv (x y : Sv) : Int := cmpS x.nm y.nm
def cBe (x y : Be) : Int := cmpS x.nm y.nm
def cCp (x y : Cp) : Int := orI (cmpS x.se y.se) (cmpI x.nu y.nu)
theorem cSv_neg (x y : Sv) : decide (cSv x y < 0) = rSv x y := by
  unfold cSv rSv
  rw [Bool.eq_iff_iff, decide_eq_true_iff]
  exact cmpS_neg
theorem cBe_neg (x y : Be) : decide (cBe x y < 0) = rBe x y := by
  unfold cBe rBe
  rw [Bool.eq_iff_iff, decide_eq_true_iff]
  exact cmpS_neg
theorem cCp_neg (x y : Cp) : decide (cCp x y < 0) = aheadB x y := by
  unfold cCp aheadB orI
  rw [Bool.eq_iff_iff, decide_eq_true_iff, Bool.or_eq_true, Bool.and_eq_true, decide_eq_true_iff]
  by_cases h : cmpS x.se y.se = 0
  · rw [if_pos h, cmpI_neg]
    have h2 := cmpS_zero.1 h
    rw [h2, less_irrefl]
    simp
  · rw [if_neg h, cmpS_neg]
    have h2 : (x.se.toList == y.se.toList) = false := bytes_ne.2 fun e => h (cmpS_zero.2 e)
    rw [h2]
    simp

set_option maxHeartbeats 1000000 in
theorem cmpSv_any (x y : Sv) (w : World) :
    Calls Tryz.prog 89 #[.agg #[.string x.nm, .int .i64 x.ve, .bool x.gn, .int .i64 x.im, .int .i64 x.wa, .int .i64 x.dn, .int .i64 x.ov, .int .i64 x.nx, .int .i64 x.pr, .int .i64 x.ls, .int .i64 x.ms, .int .i64 x.ld, .int .i64 x.cl], .agg #[.string y.nm, .int .i64 y.ve, .bool y.gn, .int .i64 y.im, .int .i64 y.wa, .int .i64 y.dn, .int .i64 y.ov, .int .i64 y.nx, .int .i64 y.pr, .int .i64 y.ls, .int .i64 y.ms, .int .i64 y.ld, .int .i64 y.cl]] w fun e w' => e = .returned (.int .i64 (cSv x y)) ∧ Below w.heap.size w w' := by
  have HO : ∀ o o', Hid (Below w.heap.size w ((w.alloc o).alloc o')) := fun o o' => (one_al w o).alloc (by simp) o'
  go_enter Tryz.func89, Tryz.ntmps89
  go_wp2_with (go_at_call 116; refine (cmpStr_any _ _ _).mono ?_; rintro e w' ⟨rfl, rfl⟩)
  go_ret
  exact ⟨rfl, (HO _ _).out⟩

set_option maxHeartbeats 1000000 in
theorem cmpBe_any (x y : Be) (w : World) :
    Calls Tryz.prog 93 #[.agg #[.string x.nm, .bool x.dr], .agg #[.string y.nm, .bool y.dr]] w fun e w' => e = .returned (.int .i64 (cBe x y)) ∧ Below w.heap.size w w' := by
  have HO : ∀ o o', Hid (Below w.heap.size w ((w.alloc o).alloc o')) := fun o o' => (one_al w o).alloc (by simp) o'
  go_enter Tryz.func93, Tryz.ntmps93
  go_wp2_with (go_at_call 116; refine (cmpStr_any _ _ _).mono ?_; rintro e w' ⟨rfl, rfl⟩)
  go_ret
  exact ⟨rfl, (HO _ _).out⟩

set_option maxRecDepth 20000 in
set_option maxHeartbeats 2000000 in
theorem cmpCp_any (x y : Cp) (w : World) :
    Calls Tryz.prog 97 #[.agg #[.string x.se, .int .i64 x.nu, .int .i64 x.ve, .int .i64 x.im, .int .i64 x.st, .bool x.en, .string x.be], .agg #[.string y.se, .int .i64 y.nu, .int .i64 y.ve, .int .i64 y.im, .int .i64 y.st, .bool y.en, .string y.be]] w fun e w' => e = .returned (.int .i64 (cCp x y)) ∧ Below w.heap.size w w' := by
  have HO : Hid (orL [cmpS x.se y.se, cmpI x.nu y.nu] = cCp x y) := orL_two _ _
  go_enter Tryz.func97, Tryz.ntmps97
  go_wp2
  generalize hWa : (World.alloc (w.alloc _) _) = Wa
  have HBa : Hid (Below w.heap.size w Wa) := by rw [← hWa]; exact (one_al w _).alloc (by simp) _
  have FA : Hid (Box Wa w.heap.size #[.string x.se, .int .i64 x.nu, .int .i64 x.ve, .int .i64 x.im, .int .i64 x.st, .bool x.en, .string x.be]) := by rw [← hWa]; exact (Box.new _ _ _ _ rfl).on (one_al _ _)
  have FB : Hid (Box Wa (w.heap.size + 1) #[.string y.se, .int .i64 y.nu, .int .i64 y.ve, .int .i64 y.im, .int .i64 y.st, .bool y.en, .string y.be]) := by rw [← hWa]; exact Box.new _ _ _ _ (by simp)
  clear hWa
  go_region_held3 (HeldB Wa w.heap.size #[.string x.se, .int .i64 x.nu, .int .i64 x.ve, .int .i64 x.im, .int .i64 x.st, .bool x.en, .string x.be] (w.heap.size + 1) #[.string y.se, .int .i64 y.nu, .int .i64 y.ve, .int .i64 y.im, .int .i64 y.st, .bool y.en, .string y.be])
    (first
      | (with_reducible exact HeldB.drew FA.out FB.out)
      | (with_reducible exact HeldB.on (by assumption) (Below.refl _ _))
      | (with_reducible exact HeldB.on (by assumption) (one_al _ _))
      | (with_reducible exact HeldB.on (by assumption) (by assumption)))
    (first
      | (go_at_call 116
         refine (cmpStr_any _ _ _).mono ?_
         rintro e w1 ⟨rfl, rfl⟩)
      | (go_at_call 124
         refine (cmpInt_any _ _ _).mono ?_
         rintro e w1 ⟨rfl, rfl⟩)
      | (go_at_call 123
         refine (cmpOr_any _ _ _ _ [cmpS x.se y.se, cmpI x.nu y.nu] (by simp) ?_).mono ?_
         · intro i hi
           have hi' : i = 0 ∨ i = 1 := by simp at hi; omega
           rcases hi' with rfl | rfl <;> simp
         rintro e w2 ⟨rfl, rfl⟩))
  go_wp2
  go_ret
  exact ⟨ret_int HO.out, (HBa.out.trans ((one_al _ _).mono HBa.out.size)).drew⟩

end Go.Proofs.YtaogpeebencnoaaGreatDoor
namespace Go.Proofs.YtaogpeebencnoaaGreatDoor
open Go.ChangeShapes Go.WideShapes Go.ChangeAt Go.RowKit Go.Deep
theorem Tryz.own : ownKnob Tryz.prog.godebug = none := by kernel_rfl
theorem Tryz.laidOut : laidOutB Tryz.prog = true := by kernel_rfl
theorem Tryz.cells9 : Tryz.prog.cellsOf 9 = 1 := by kernel_rfl
theorem Tryz.cells3 : Tryz.prog.cellsOf 3 = 1 := by kernel_rfl
theorem Tryz.cells4 : Tryz.prog.cellsOf 4 = 1 := by kernel_rfl
theorem choose_list {α : Type} {p : Nat → α → Prop} (n : Nat) : (∀ i, i < n → ∃ x, p i x) → ∃ L : List α, L.length = n ∧ ∀ i (h : i < L.length), p i L[i] := by
  induction n with
  | zero => intro _; exact ⟨[], rfl, fun i h => absurd h (by simp)⟩
  | succ n ih =>
    intro h
    obtain ⟨L, hl, hL⟩ := ih (fun i hi => h i (by omega))
    obtain ⟨x, hx⟩ := h n (by omega)
    refine ⟨L ++ [x], by simp [hl], fun i hi => ?_⟩
    by_cases e : i < L.length
    · rw [List.getElem_append_left e]; exact hL i e
    · have e2 : i = n := by simp at hi; omega
      subst e2
      have : (L ++ [x])[i] = x := by rw [List.getElem_append_right (by omega)]; simp [hl]
      rw [this]; exact hx
theorem Tryz.cells79 : Tryz.prog.cellsOf 79 = 13 := by kernel_rfl
theorem lstSv {l : List Value} (h : l.length = 13) : ∃ c0 c1 c2 c3 c4 c5 c6 c7 c8 c9 c10 c11 c12, l = [c0, c1, c2, c3, c4, c5, c6, c7, c8, c9, c10, c11, c12] := by
  match l, h with
  | [c0, c1, c2, c3, c4, c5, c6, c7, c8, c9, c10, c11, c12], _ => exact ⟨c0, c1, c2, c3, c4, c5, c6, c7, c8, c9, c10, c11, c12, rfl⟩
section
variable {H : Type} {enc : TypeId × Value → H} {W : World}
set_option maxRecDepth 100000 in
theorem open_Sv {fuel : Nat} {cs : List Value} {x : DataW H × List MemPlace} (h : DataW.trod enc Tryz.prog W 0 (fun _ => true) true fuel 79 cs = some x) :
    ∃ (x : Sv), cs = [.string x.nm, .int .i64 x.ve, .bool x.gn, .int .i64 x.im, .int .i64 x.wa, .int .i64 x.dn, .int .i64 x.ov, .int .i64 x.nx, .int .i64 x.pr, .int .i64 x.ls, .int .i64 x.ms, .int .i64 x.ld, .int .i64 x.cl] ∧ SvSize x := by
  obtain ⟨xs, n, _, _, hl, hlen, hfld⟩ := DataW.trod_struct Tryz.underlying79 h
  obtain ⟨c0, c1, c2, c3, c4, c5, c6, c7, c8, c9, c10, c11, c12, rfl⟩ := lstSv (hl.trans Tryz.cells79)
  simp only [Array.size, List.length_cons, List.length_nil] at hlen
  have g0 : DataW.trod enc Tryz.prog W 0 (fun _ => true) true n 9 ((([c0, c1, c2, c3, c4, c5, c6, c7, c8, c9, c10, c11, c12] : List Value).drop 0).take (Tryz.prog.cellsOf 9)) = xs[0]? := hfld 0 _ rfl
  have g1 : DataW.trod enc Tryz.prog W 0 (fun _ => true) true n 3 ((([c0, c1, c2, c3, c4, c5, c6, c7, c8, c9, c10, c11, c12] : List Value).drop 1).take (Tryz.prog.cellsOf 3)) = xs[1]? := hfld 1 _ rfl
  have g2 : DataW.trod enc Tryz.prog W 0 (fun _ => true) true n 4 ((([c0, c1, c2, c3, c4, c5, c6, c7, c8, c9, c10, c11, c12] : List Value).drop 2).take (Tryz.prog.cellsOf 4)) = xs[2]? := hfld 2 _ rfl
  have g3 : DataW.trod enc Tryz.prog W 0 (fun _ => true) true n 3 ((([c0, c1, c2, c3, c4, c5, c6, c7, c8, c9, c10, c11, c12] : List Value).drop 3).take (Tryz.prog.cellsOf 3)) = xs[3]? := hfld 3 _ rfl
  have g4 : DataW.trod enc Tryz.prog W 0 (fun _ => true) true n 3 ((([c0, c1, c2, c3, c4, c5, c6, c7, c8, c9, c10, c11, c12] : List Value).drop 4).take (Tryz.prog.cellsOf 3)) = xs[4]? := hfld 4 _ rfl
  have g5 : DataW.trod enc Tryz.prog W 0 (fun _ => true) true n 3 ((([c0, c1, c2, c3, c4, c5, c6, c7, c8, c9, c10, c11, c12] : List Value).drop 5).take (Tryz.prog.cellsOf 3)) = xs[5]? := hfld 5 _ rfl
  have g6 : DataW.trod enc Tryz.prog W 0 (fun _ => true) true n 3 ((([c0, c1, c2, c3, c4, c5, c6, c7, c8, c9, c10, c11, c12] : List Value).drop 6).take (Tryz.prog.cellsOf 3)) = xs[6]? := hfld 6 _ rfl
  have g7 : DataW.trod enc Tryz.prog W 0 (fun _ => true) true n 3 ((([c0, c1, c2, c3, c4, c5, c6, c7, c8, c9, c10, c11, c12] : List Value).drop 7).take (Tryz.prog.cellsOf 3)) = xs[7]? := hfld 7 _ rfl
  have g8 : DataW.trod enc Tryz.prog W 0 (fun _ => true) true n 3 ((([c0, c1, c2, c3, c4, c5, c6, c7, c8, c9, c10, c11, c12] : List Value).drop 8).take (Tryz.prog.cellsOf 3)) = xs[8]? := hfld 8 _ rfl
  have g9 : DataW.trod enc Tryz.prog W 0 (fun _ => true) true n 3 ((([c0, c1, c2, c3, c4, c5, c6, c7, c8, c9, c10, c11, c12] : List Value).drop 9).take (Tryz.prog.cellsOf 3)) = xs[9]? := hfld 9 _ rfl
  have g10 : DataW.trod enc Tryz.prog W 0 (fun _ => true) true n 3 ((([c0, c1, c2, c3, c4, c5, c6, c7, c8, c9, c10, c11, c12] : List Value).drop 10).take (Tryz.prog.cellsOf 3)) = xs[10]? := hfld 10 _ rfl
  have g11 : DataW.trod enc Tryz.prog W 0 (fun _ => true) true n 3 ((([c0, c1, c2, c3, c4, c5, c6, c7, c8, c9, c10, c11, c12] : List Value).drop 11).take (Tryz.prog.cellsOf 3)) = xs[11]? := hfld 11 _ rfl
  have g12 : DataW.trod enc Tryz.prog W 0 (fun _ => true) true n 3 ((([c0, c1, c2, c3, c4, c5, c6, c7, c8, c9, c10, c11, c12] : List Value).drop 12).take (Tryz.prog.cellsOf 3)) = xs[12]? := hfld 12 _ rfl
  simp only [Tryz.cells4, Tryz.cells3, Tryz.cells9, List.drop_succ_cons, List.drop_zero, List.take_succ_cons, List.take_zero] at g0 g1 g2 g3 g4 g5 g6 g7 g8 g9 g10 g11 g12
  rw [List.getElem?_eq_getElem (by omega)] at g0 g1 g2 g3 g4 g5 g6 g7 g8 g9 g10 g11 g12
  obtain ⟨q0, e0, _, s0⟩ := DataW.trod_string Tryz.underlying9 g0
  obtain ⟨q1, e1, _, _⟩ := DataW.trod_int Tryz.underlying3 g1
  obtain ⟨q2, e2, _⟩ := DataW.trod_bool Tryz.underlying4 g2
  obtain ⟨q3, e3, _, _⟩ := DataW.trod_int Tryz.underlying3 g3
  obtain ⟨q4, e4, _, _⟩ := DataW.trod_int Tryz.underlying3 g4
  obtain ⟨q5, e5, _, _⟩ := DataW.trod_int Tryz.underlying3 g5
  obtain ⟨q6, e6, _, _⟩ := DataW.trod_int Tryz.underlying3 g6
  obtain ⟨q7, e7, _, _⟩ := DataW.trod_int Tryz.underlying3 g7
  obtain ⟨q8, e8, _, _⟩ := DataW.trod_int Tryz.underlying3 g8
  obtain ⟨q9, e9, _, _⟩ := DataW.trod_int Tryz.underlying3 g9
  obtain ⟨q10, e10, _, _⟩ := DataW.trod_int Tryz.underlying3 g10
  obtain ⟨q11, e11, _, _⟩ := DataW.trod_int Tryz.underlying3 g11
  obtain ⟨q12, e12, _, _⟩ := DataW.trod_int Tryz.underlying3 g12
  simp only [List.cons.injEq, and_true] at e0 e1 e2 e3 e4 e5 e6 e7 e8 e9 e10 e11 e12
  subst e0 e1 e2 e3 e4 e5 e6 e7 e8 e9 e10 e11 e12
  exact ⟨⟨q0, q1, q2, q3, q4, q5, q6, q7, q8, q9, q10, q11, q12⟩, rfl, ⟨s0⟩⟩
set_option maxRecDepth 100000 in
theorem open_Svs {fuel : Nat} {c : Value} {x : DataW H × List MemPlace} (h : DataW.trod enc Tryz.prog W 0 (fun _ => true) true fuel 22 [c] = some x) : ∃ Xl, SvsAt 0 W c Xl := by
  rcases open_slice Tryz.underlying22 h with ⟨hcs, _⟩ | ⟨a, len, cap, m, n, D, Pl, hcs, _, hl, hm, hmm, _, hx⟩
  · simp only [List.cons.injEq, and_true] at hcs
    exact ⟨[], Or.inl ⟨_, _, hcs, rfl⟩⟩
  · simp only [List.cons.injEq, and_true] at hcs
    simp only [if_true] at hmm
    subst hmm
    rw [Tryz.cells79] at hx
    by_cases h0 : len = 0
    · subst h0
      exact ⟨[], Or.inl ⟨_, _, hcs, rfl⟩⟩
    · obtain ⟨Xl, hF, hall⟩ := choose_list (p := fun i (x : Sv) => SvSize x ∧ W.cells? 0 (a.add (i * 13)) 13 = some [.string x.nm, .int .i64 x.ve, .bool x.gn, .int .i64 x.im, .int .i64 x.wa, .int .i64 x.dn, .int .i64 x.ov, .int .i64 x.nx, .int .i64 x.pr, .int .i64 x.ls, .int .i64 x.ms, .int .i64 x.ld, .int .i64 x.cl]) len (fun i hi => by
        obtain ⟨cs', h1, h2⟩ := hx i (by omega)
        obtain ⟨md, e, hz⟩ := open_Sv h2
        rw [e] at h1
        exact ⟨md, hz, h1⟩)
      obtain ⟨b, off, spot⟩ := a
      have hspot : spot = none := by
        obtain ⟨_, h1⟩ := hall 0 (by omega)
        have := (World.cells?_some h1).2.2 0 (by omega)
        rw [Nat.zero_mul] at this
        have e0 : ((⟨b, off, spot⟩ : Addr).add 0).add 0 = ⟨b, off, spot⟩ := by simp [Addr.add]
        rw [e0] at this
        simpa using World.cell?_spot (by simpa using this)
      subst hspot
      have hcell : ∀ i (hi : i < Xl.length), W.cells? 0 ((⟨b, off, none⟩ : Addr).add (i * 13)) 13 = some [.string Xl[i].nm, .int .i64 Xl[i].ve, .bool Xl[i].gn, .int .i64 Xl[i].im, .int .i64 Xl[i].wa, .int .i64 Xl[i].dn, .int .i64 Xl[i].ov, .int .i64 Xl[i].nx, .int .i64 Xl[i].pr, .int .i64 Xl[i].ls, .int .i64 Xl[i].ms, .int .i64 Xl[i].ld, .int .i64 Xl[i].cl] → SvCells W b (off + i * 13) Xl[i] := fun i hi h1 => by
        obtain ⟨_, _, hc⟩ := World.cells?_some h1
        rw [add_plain] at hc
        have q := fun j (hj : j < 13) => (add_plain b (off + i * 13) j) ▸ hc j hj
        exact ⟨by simpa using q 0 (by omega), by simpa using q 1 (by omega), by simpa using q 2 (by omega), by simpa using q 3 (by omega), by simpa using q 4 (by omega), by simpa using q 5 (by omega), by simpa using q 6 (by omega), by simpa using q 7 (by omega), by simpa using q 8 (by omega), by simpa using q 9 (by omega), by simpa using q 10 (by omega), by simpa using q 11 (by omega), by simpa using q 12 (by omega)⟩
      have hbw : b < W.heap.size := by
        obtain ⟨_, h1⟩ := hall 0 (by omega)
        exact World.block_lt_of_cell? W _ (hcell 0 (by omega) h1).c0
      refine ⟨Xl, Or.inr ⟨b, off, m, by rw [hcs, hF], ?_, by omega, hbw, Nat.zero_le _, by omega, fun i hi => ?_⟩⟩
      · intro e; rw [e] at hF; simp at hF; omega
      · obtain ⟨hz, h1⟩ := hall i hi
        exact ⟨hz, hcell i hi h1⟩
end
theorem Tryz.cells82 : Tryz.prog.cellsOf 82 = 7 := by kernel_rfl
theorem lstCp {l : List Value} (h : l.length = 7) : ∃ c0 c1 c2 c3 c4 c5 c6, l = [c0, c1, c2, c3, c4, c5, c6] := by
  match l, h with
  | [c0, c1, c2, c3, c4, c5, c6], _ => exact ⟨c0, c1, c2, c3, c4, c5, c6, rfl⟩
section
variable {H : Type} {enc : TypeId × Value → H} {W : World}
set_option maxRecDepth 100000 in
theorem open_Cp {fuel : Nat} {cs : List Value} {x : DataW H × List MemPlace} (h : DataW.trod enc Tryz.prog W 0 (fun _ => true) true fuel 82 cs = some x) :
    ∃ (x : Cp), cs = [.string x.se, .int .i64 x.nu, .int .i64 x.ve, .int .i64 x.im, .int .i64 x.st, .bool x.en, .string x.be] ∧ CpSize x := by
  obtain ⟨xs, n, _, _, hl, hlen, hfld⟩ := DataW.trod_struct Tryz.underlying82 h
  obtain ⟨c0, c1, c2, c3, c4, c5, c6, rfl⟩ := lstCp (hl.trans Tryz.cells82)
  simp only [Array.size, List.length_cons, List.length_nil] at hlen
  have g0 : DataW.trod enc Tryz.prog W 0 (fun _ => true) true n 9 ((([c0, c1, c2, c3, c4, c5, c6] : List Value).drop 0).take (Tryz.prog.cellsOf 9)) = xs[0]? := hfld 0 _ rfl
  have g1 : DataW.trod enc Tryz.prog W 0 (fun _ => true) true n 3 ((([c0, c1, c2, c3, c4, c5, c6] : List Value).drop 1).take (Tryz.prog.cellsOf 3)) = xs[1]? := hfld 1 _ rfl
  have g2 : DataW.trod enc Tryz.prog W 0 (fun _ => true) true n 3 ((([c0, c1, c2, c3, c4, c5, c6] : List Value).drop 2).take (Tryz.prog.cellsOf 3)) = xs[2]? := hfld 2 _ rfl
  have g3 : DataW.trod enc Tryz.prog W 0 (fun _ => true) true n 3 ((([c0, c1, c2, c3, c4, c5, c6] : List Value).drop 3).take (Tryz.prog.cellsOf 3)) = xs[3]? := hfld 3 _ rfl
  have g4 : DataW.trod enc Tryz.prog W 0 (fun _ => true) true n 3 ((([c0, c1, c2, c3, c4, c5, c6] : List Value).drop 4).take (Tryz.prog.cellsOf 3)) = xs[4]? := hfld 4 _ rfl
  have g5 : DataW.trod enc Tryz.prog W 0 (fun _ => true) true n 4 ((([c0, c1, c2, c3, c4, c5, c6] : List Value).drop 5).take (Tryz.prog.cellsOf 4)) = xs[5]? := hfld 5 _ rfl
  have g6 : DataW.trod enc Tryz.prog W 0 (fun _ => true) true n 9 ((([c0, c1, c2, c3, c4, c5, c6] : List Value).drop 6).take (Tryz.prog.cellsOf 9)) = xs[6]? := hfld 6 _ rfl
  simp only [Tryz.cells4, Tryz.cells3, Tryz.cells9, List.drop_succ_cons, List.drop_zero, List.take_succ_cons, List.take_zero] at g0 g1 g2 g3 g4 g5 g6
  rw [List.getElem?_eq_getElem (by omega)] at g0 g1 g2 g3 g4 g5 g6
  obtain ⟨q0, e0, _, s0⟩ := DataW.trod_string Tryz.underlying9 g0
  obtain ⟨q1, e1, _, _⟩ := DataW.trod_int Tryz.underlying3 g1
  obtain ⟨q2, e2, _, _⟩ := DataW.trod_int Tryz.underlying3 g2
  obtain ⟨q3, e3, _, _⟩ := DataW.trod_int Tryz.underlying3 g3
  obtain ⟨q4, e4, _, _⟩ := DataW.trod_int Tryz.underlying3 g4
  obtain ⟨q5, e5, _⟩ := DataW.trod_bool Tryz.underlying4 g5
  obtain ⟨q6, e6, _, s6⟩ := DataW.trod_string Tryz.underlying9 g6
  simp only [List.cons.injEq, and_true] at e0 e1 e2 e3 e4 e5 e6
  subst e0 e1 e2 e3 e4 e5 e6
  exact ⟨⟨q0, q1, q2, q3, q4, q5, q6⟩, rfl, ⟨s0, s6⟩⟩
set_option maxRecDepth 100000 in
theorem open_Cps {fuel : Nat} {c : Value} {x : DataW H × List MemPlace} (h : DataW.trod enc Tryz.prog W 0 (fun _ => true) true fuel 23 [c] = some x) : ∃ Xl, CpsAt 0 W c Xl := by
  rcases open_slice Tryz.underlying23 h with ⟨hcs, _⟩ | ⟨a, len, cap, m, n, D, Pl, hcs, _, hl, hm, hmm, _, hx⟩
  · simp only [List.cons.injEq, and_true] at hcs
    exact ⟨[], Or.inl ⟨_, _, hcs, rfl⟩⟩
  · simp only [List.cons.injEq, and_true] at hcs
    simp only [if_true] at hmm
    subst hmm
    rw [Tryz.cells82] at hx
    by_cases h0 : len = 0
    · subst h0
      exact ⟨[], Or.inl ⟨_, _, hcs, rfl⟩⟩
    · obtain ⟨Xl, hF, hall⟩ := choose_list (p := fun i (x : Cp) => CpSize x ∧ W.cells? 0 (a.add (i * 7)) 7 = some [.string x.se, .int .i64 x.nu, .int .i64 x.ve, .int .i64 x.im, .int .i64 x.st, .bool x.en, .string x.be]) len (fun i hi => by
        obtain ⟨cs', h1, h2⟩ := hx i (by omega)
        obtain ⟨md, e, hz⟩ := open_Cp h2
        rw [e] at h1
        exact ⟨md, hz, h1⟩)
      obtain ⟨b, off, spot⟩ := a
      have hspot : spot = none := by
        obtain ⟨_, h1⟩ := hall 0 (by omega)
        have := (World.cells?_some h1).2.2 0 (by omega)
        rw [Nat.zero_mul] at this
        have e0 : ((⟨b, off, spot⟩ : Addr).add 0).add 0 = ⟨b, off, spot⟩ := by simp [Addr.add]
        rw [e0] at this
        simpa using World.cell?_spot (by simpa using this)
      subst hspot
      have hcell : ∀ i (hi : i < Xl.length), W.cells? 0 ((⟨b, off, none⟩ : Addr).add (i * 7)) 7 = some [.string Xl[i].se, .int .i64 Xl[i].nu, .int .i64 Xl[i].ve, .int .i64 Xl[i].im, .int .i64 Xl[i].st, .bool Xl[i].en, .string Xl[i].be] → CpCells W b (off + i * 7) Xl[i] := fun i hi h1 => by
        obtain ⟨_, _, hc⟩ := World.cells?_some h1
        rw [add_plain] at hc
        have q := fun j (hj : j < 7) => (add_plain b (off + i * 7) j) ▸ hc j hj
        exact ⟨by simpa using q 0 (by omega), by simpa using q 1 (by omega), by simpa using q 2 (by omega), by simpa using q 3 (by omega), by simpa using q 4 (by omega), by simpa using q 5 (by omega), by simpa using q 6 (by omega)⟩
      have hbw : b < W.heap.size := by
        obtain ⟨_, h1⟩ := hall 0 (by omega)
        exact World.block_lt_of_cell? W _ (hcell 0 (by omega) h1).c0
      refine ⟨Xl, Or.inr ⟨b, off, m, by rw [hcs, hF], ?_, by omega, hbw, Nat.zero_le _, by omega, fun i hi => ?_⟩⟩
      · intro e; rw [e] at hF; simp at hF; omega
      · obtain ⟨hz, h1⟩ := hall i hi
        exact ⟨hz, hcell i hi h1⟩
end
theorem Tryz.cells85 : Tryz.prog.cellsOf 85 = 2 := by kernel_rfl
theorem lstBe {l : List Value} (h : l.length = 2) : ∃ c0 c1, l = [c0, c1] := by
  match l, h with
  | [c0, c1], _ => exact ⟨c0, c1, rfl⟩
section
variable {H : Type} {enc : TypeId × Value → H} {W : World}
set_option maxRecDepth 100000 in
theorem open_Be {fuel : Nat} {cs : List Value} {x : DataW H × List MemPlace} (h : DataW.trod enc Tryz.prog W 0 (fun _ => true) true fuel 85 cs = some x) :
    ∃ (x : Be), cs = [.string x.nm, .bool x.dr] ∧ BeSize x := by
  obtain ⟨xs, n, _, _, hl, hlen, hfld⟩ := DataW.trod_struct Tryz.underlying85 h
  obtain ⟨c0, c1, rfl⟩ := lstBe (hl.trans Tryz.cells85)
  simp only [Array.size, List.length_cons, List.length_nil] at hlen
  have g0 : DataW.trod enc Tryz.prog W 0 (fun _ => true) true n 9 ((([c0, c1] : List Value).drop 0).take (Tryz.prog.cellsOf 9)) = xs[0]? := hfld 0 _ rfl
  have g1 : DataW.trod enc Tryz.prog W 0 (fun _ => true) true n 4 ((([c0, c1] : List Value).drop 1).take (Tryz.prog.cellsOf 4)) = xs[1]? := hfld 1 _ rfl
  simp only [Tryz.cells4, Tryz.cells9, List.drop_succ_cons, List.drop_zero, List.take_succ_cons, List.take_zero] at g0 g1
  rw [List.getElem?_eq_getElem (by omega)] at g0 g1
  obtain ⟨q0, e0, _, s0⟩ := DataW.trod_string Tryz.underlying9 g0
  obtain ⟨q1, e1, _⟩ := DataW.trod_bool Tryz.underlying4 g1
  simp only [List.cons.injEq, and_true] at e0 e1
  subst e0 e1
  exact ⟨⟨q0, q1⟩, rfl, ⟨s0⟩⟩
set_option maxRecDepth 100000 in
theorem open_Bes {fuel : Nat} {c : Value} {x : DataW H × List MemPlace} (h : DataW.trod enc Tryz.prog W 0 (fun _ => true) true fuel 24 [c] = some x) : ∃ Xl, BesAt 0 W c Xl := by
  rcases open_slice Tryz.underlying24 h with ⟨hcs, _⟩ | ⟨a, len, cap, m, n, D, Pl, hcs, _, hl, hm, hmm, _, hx⟩
  · simp only [List.cons.injEq, and_true] at hcs
    exact ⟨[], Or.inl ⟨_, _, hcs, rfl⟩⟩
  · simp only [List.cons.injEq, and_true] at hcs
    simp only [if_true] at hmm
    subst hmm
    rw [Tryz.cells85] at hx
    by_cases h0 : len = 0
    · subst h0
      exact ⟨[], Or.inl ⟨_, _, hcs, rfl⟩⟩
    · obtain ⟨Xl, hF, hall⟩ := choose_list (p := fun i (x : Be) => BeSize x ∧ W.cells? 0 (a.add (i * 2)) 2 = some [.string x.nm, .bool x.dr]) len (fun i hi => by
        obtain ⟨cs', h1, h2⟩ := hx i (by omega)
        obtain ⟨md, e, hz⟩ := open_Be h2
        rw [e] at h1
        exact ⟨md, hz, h1⟩)
      obtain ⟨b, off, spot⟩ := a
      have hspot : spot = none := by
        obtain ⟨_, h1⟩ := hall 0 (by omega)
        have := (World.cells?_some h1).2.2 0 (by omega)
        rw [Nat.zero_mul] at this
        have e0 : ((⟨b, off, spot⟩ : Addr).add 0).add 0 = ⟨b, off, spot⟩ := by simp [Addr.add]
        rw [e0] at this
        simpa using World.cell?_spot (by simpa using this)
      subst hspot
      have hcell : ∀ i (hi : i < Xl.length), W.cells? 0 ((⟨b, off, none⟩ : Addr).add (i * 2)) 2 = some [.string Xl[i].nm, .bool Xl[i].dr] → BeCells W b (off + i * 2) Xl[i] := fun i hi h1 => by
        obtain ⟨_, _, hc⟩ := World.cells?_some h1
        rw [add_plain] at hc
        have q := fun j (hj : j < 2) => (add_plain b (off + i * 2) j) ▸ hc j hj
        exact ⟨by simpa using q 0 (by omega), by simpa using q 1 (by omega)⟩
      have hbw : b < W.heap.size := by
        obtain ⟨_, h1⟩ := hall 0 (by omega)
        exact World.block_lt_of_cell? W _ (hcell 0 (by omega) h1).c0
      refine ⟨Xl, Or.inr ⟨b, off, m, by rw [hcs, hF], ?_, by omega, hbw, Nat.zero_le _, by omega, fun i hi => ?_⟩⟩
      · intro e; rw [e] at hF; simp at hF; omega
      · obtain ⟨hz, h1⟩ := hall i hi
        exact ⟨hz, hcell i hi h1⟩
end
theorem Tryz.cells26 : Tryz.prog.cellsOf 26 = 4 := by kernel_rfl
theorem Tryz.cells22 : Tryz.prog.cellsOf 22 = 1 := by kernel_rfl
theorem Tryz.cells23 : Tryz.prog.cellsOf 23 = 1 := by kernel_rfl
theorem Tryz.cells24 : Tryz.prog.cellsOf 24 = 1 := by kernel_rfl
theorem array4 {cs : Array Value} (h : cs.size = 4) : ∃ c0 c1 c2 c3, cs = #[c0, c1, c2, c3] := by
  obtain ⟨l⟩ := cs
  match l, h with
  | [c0, c1, c2, c3], _ => exact ⟨c0, c1, c2, c3, rfl⟩
section
variable {H : Type} {enc : TypeId × Value → H} {W : World}
set_option maxRecDepth 100000 in
theorem open_sbook {r : Reach} {b0 : Nat} {v : Value} {d : DataW H} {p : List MemPlace} (hv : Value.okWide Tryz.prog W r b0 26 v) (h : DataW.Trod enc Tryz.prog W 0 (fun _ => true) true 26 v d p) :
    ∃ (sv cv bv : Value) (B : Sb), v = .agg #[.int .i64 B.now, sv, cv, bv] ∧ SbAt 0 W sv cv bv B := by
  obtain ⟨cs, rfl, hsz⟩ := okWide_struct Tryz.underlying26 hv
  obtain ⟨c0, c1, c2, c3, rfl⟩ := array4 (hsz.trans Tryz.cells26)
  obtain ⟨fuel, hf⟩ := h
  obtain ⟨xs, n, _, _, _, hlen, hfld⟩ := DataW.trod_struct Tryz.underlying26 hf
  simp only [Array.size, List.length_cons, List.length_nil] at hlen
  have g0 : DataW.trod enc Tryz.prog W 0 (fun _ => true) true n 3 ((([c0, c1, c2, c3] : List Value).drop 0).take (Tryz.prog.cellsOf 3)) = xs[0]? := hfld 0 _ rfl
  have g1 : DataW.trod enc Tryz.prog W 0 (fun _ => true) true n 22 ((([c0, c1, c2, c3] : List Value).drop 1).take (Tryz.prog.cellsOf 22)) = xs[1]? := hfld 1 _ rfl
  have g2 : DataW.trod enc Tryz.prog W 0 (fun _ => true) true n 23 ((([c0, c1, c2, c3] : List Value).drop 2).take (Tryz.prog.cellsOf 23)) = xs[2]? := hfld 2 _ rfl
  have g3 : DataW.trod enc Tryz.prog W 0 (fun _ => true) true n 24 ((([c0, c1, c2, c3] : List Value).drop 3).take (Tryz.prog.cellsOf 24)) = xs[3]? := hfld 3 _ rfl
  simp only [Tryz.cells3, Tryz.cells22, Tryz.cells23, Tryz.cells24, List.drop_succ_cons, List.drop_zero, List.take_succ_cons, List.take_zero] at g0 g1 g2 g3
  rw [List.getElem?_eq_getElem (by omega)] at g0 g1 g2 g3
  obtain ⟨q0, e0, _, _⟩ := DataW.trod_int Tryz.underlying3 g0
  simp only [List.cons.injEq, and_true] at e0
  subst e0
  obtain ⟨Ss, hS⟩ := open_Svs g1
  obtain ⟨Cs, hC⟩ := open_Cps g2
  obtain ⟨Bs, hB⟩ := open_Bes g3
  exact ⟨c1, c2, c3, ⟨q0, Ss, Cs, Bs⟩, rfl, hS, hC, hB⟩
end
end Go.Proofs.YtaogpeebencnoaaGreatDoor
