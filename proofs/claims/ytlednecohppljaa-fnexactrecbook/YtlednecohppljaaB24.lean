import Derived.Test.YtlednecohppljaaB18
import Derived.ProofKit
import Derived.Deep.Strs
import Derived.Deep.RegionHeld
import Derived.ChangeSlices
namespace Go.Proofs.Ytlednecohppljaa
open Go.ChangeShapes Go.WideShapes Go.ChangeAt Go.RowKit Go.Deep
theorem Try.own : ownKnob Try.prog.godebug = none := by kernel_rfl
theorem Try.laidOut : laidOutB Try.prog = true := by kernel_rfl
theorem Try.cells9 : Try.prog.cellsOf 9 = 1 := by kernel_rfl
theorem Try.cells3 : Try.prog.cellsOf 3 = 1 := by kernel_rfl
theorem Try.cells4 : Try.prog.cellsOf 4 = 1 := by kernel_rfl
theorem choose_list {α : Type} {p : Nat → α → Prop} (n : Nat) : (∀ i, i < n → ∃ x, p i x) → ∃ L : List α, L.length = n ∧ ∀ i (h : i < L.length), p i L[i] := by
  induction n with
  | zero => intro _; exact ⟨[], rfl, fun i h => absurd h (by simp)⟩
  | succ n ih =>
    intro h
    obtain ⟨L, hl, hL⟩ := ih (fun i hi => h i (by omega))
    obtain ⟨x, hx⟩ := h n (by omega)
    refine ⟨L ++ [x], by simp [hl], fun i hi => ?_⟩
    by_cases e : i < L.length
    · rw [List.getElem_append_left e]; exact hL i e
    · have e2 : i = n := by simp at hi; omega
      subst e2
      have : (L ++ [x])[i] = x := by rw [List.getElem_append_right (by omega)]; simp [hl]
      rw [this]; exact hx
theorem Try.cells54 : Try.prog.cellsOf 54 = 2 := by kernel_rfl
theorem lstRs {l : List Value} (h : l.length = 2) : ∃ c0 c1, l = [c0, c1] := by
  match l, h with
  | [c0, c1], _ => exact ⟨c0, c1, rfl⟩
section
variable {H : Type} {enc : TypeId × Value → H} {W : World}
set_option maxRecDepth 100000 in
theorem open_Rs {fuel : Nat} {cs : List Value} {x : DataW H × List MemPlace} (h : DataW.trod enc Try.prog W 0 (fun _ => true) true fuel 54 cs = some x) :
    ∃ (x : Rs), cs = [.int .i64 x.ba, .string x.tx] ∧ RsSize x := by
  obtain ⟨xs, n, _, _, hl, hlen, hfld⟩ := DataW.trod_struct Try.underlying54 h
  obtain ⟨c0, c1, rfl⟩ := lstRs (hl.trans Try.cells54)
  simp only [Array.size, List.length_cons, List.length_nil] at hlen
  have g0 : DataW.trod enc Try.prog W 0 (fun _ => true) true n 3 ((([c0, c1] : List Value).drop 0).take (Try.prog.cellsOf 3)) = xs[0]? := hfld 0 _ rfl
  have g1 : DataW.trod enc Try.prog W 0 (fun _ => true) true n 9 ((([c0, c1] : List Value).drop 1).take (Try.prog.cellsOf 9)) = xs[1]? := hfld 1 _ rfl
  simp only [Try.cells3, Try.cells9, List.drop_succ_cons, List.drop_zero, List.take_succ_cons, List.take_zero] at g0 g1
  rw [List.getElem?_eq_getElem (by omega)] at g0 g1
  obtain ⟨q0, e0, _, _⟩ := DataW.trod_int Try.underlying3 g0
  obtain ⟨q1, e1, _, s1⟩ := DataW.trod_string Try.underlying9 g1
  simp only [List.cons.injEq, and_true] at e0 e1
  subst e0 e1
  exact ⟨⟨q0, q1⟩, rfl, ⟨s1⟩⟩
set_option maxRecDepth 100000 in
theorem open_Rss {fuel : Nat} {c : Value} {x : DataW H × List MemPlace} (h : DataW.trod enc Try.prog W 0 (fun _ => true) true fuel 22 [c] = some x) : ∃ Xl, RssAt 0 W c Xl := by
  rcases open_slice Try.underlying22 h with ⟨hcs, _⟩ | ⟨a, len, cap, m, n, D, Pl, hcs, _, hl, hm, hmm, _, hx⟩
  · simp only [List.cons.injEq, and_true] at hcs
    exact ⟨[], Or.inl ⟨_, _, hcs, rfl⟩⟩
  · simp only [List.cons.injEq, and_true] at hcs
    simp only [if_true] at hmm
    subst hmm
    rw [Try.cells54] at hx
    by_cases h0 : len = 0
    · subst h0
      exact ⟨[], Or.inl ⟨_, _, hcs, rfl⟩⟩
    · obtain ⟨Xl, hF, hall⟩ := choose_list (p := fun i (x : Rs) => RsSize x ∧ W.cells? 0 (a.add (i * 2)) 2 = some [.int .i64 x.ba, .string x.tx]) len (fun i hi => by
        obtain ⟨cs', h1, h2⟩ := hx i (by omega)
        obtain ⟨md, e, hz⟩ := open_Rs h2
        rw [e] at h1
        exact ⟨md, hz, h1⟩)
      obtain ⟨b, off, spot⟩ := a
      have hspot : spot = none := by
        obtain ⟨_, h1⟩ := hall 0 (by omega)
        have := (World.cells?_some h1).2.2 0 (by omega)
        rw [Nat.zero_mul] at this
        have e0 : ((⟨b, off, spot⟩ : Addr).add 0).add 0 = ⟨b, off, spot⟩ := by simp [Addr.add]
        rw [e0] at this
        simpa using World.cell?_spot (by simpa using this)
      subst hspot
      have hcell : ∀ i (hi : i < Xl.length), W.cells? 0 ((⟨b, off, none⟩ : Addr).add (i * 2)) 2 = some [.int .i64 Xl[i].ba, .string Xl[i].tx] → RsCells W b (off + i * 2) Xl[i] := fun i hi h1 => by
        obtain ⟨_, _, hc⟩ := World.cells?_some h1
        rw [add_plain] at hc
        have q := fun j (hj : j < 2) => (add_plain b (off + i * 2) j) ▸ hc j hj
        exact ⟨by simpa using q 0 (by omega), by simpa using q 1 (by omega)⟩
      have hbw : b < W.heap.size := by
        obtain ⟨_, h1⟩ := hall 0 (by omega)
        exact World.block_lt_of_cell? W _ (hcell 0 (by omega) h1).c0
      refine ⟨Xl, Or.inr ⟨b, off, m, by rw [hcs, hF], ?_, by omega, hbw, Nat.zero_le _, by omega, fun i hi => ?_⟩⟩
      · intro e; rw [e] at hF; simp at hF; omega
      · obtain ⟨hz, h1⟩ := hall i hi
        exact ⟨hz, hcell i hi h1⟩
end
end Go.Proofs.Ytlednecohppljaa
namespace Go.Proofs.Ytlednecohppljaa
open Go.RowKit Go.Deep

/-! spec.RecMessageOk -/
def msgB (M : Rm) (of : Int) : Bool := inB 1 9 M.kd && (inB 1 of M.fr && (inB 1 of M.tt && (inB 0 1000000 M.ba && (inB 0 120 M.ix && (inB 0 120 M.kn && (decide (M.tx.size ≤ 160) && (slotsB M.sl)))))))

set_option maxRecDepth 20000 in
set_option maxHeartbeats 8000000 in
theorem specMsg_any (lo : Nat) (cs : List Value) (M : Rm) (of : Int) (w : World) (h : RmC lo w cs M) :
    Calls Try.prog 56 #[.agg cs.toArray, .int .i64 of] w fun e w' => e = .returned (.bool (msgB M of)) ∧ Below w.heap.size w w' := by
  obtain ⟨a0, k0, rfl, h⟩ := h
  show Calls Try.prog 56 #[.agg #[.int .i64 M.kd, .int .i64 M.fr, .int .i64 M.tt, .int .i64 M.ba, .int .i64 M.ix, .int .i64 M.kn, .string M.tx, .slice a0 M.sl.length k0], .int .i64 of] w _
  have HK := hide h
  have hs := h.s0
  unfold maxLen at hs
  clear h
  have HI : Hid (msgB M of = (inB 1 9 M.kd && (inB 1 of M.fr && (inB 1 of M.tt && (inB 0 1000000 M.ba && (inB 0 120 M.ix && (inB 0 120 M.kn && (decide (M.tx.size ≤ 160) && (slotsB M.sl))))))))) := rfl
  have HO : ∀ o, Hid (Below w.heap.size w (w.alloc o)) := fun o => one_al w o
  go_enter Try.func56, Try.ntmps56
  cases h0 : inB 1 9 M.kd with
  | false =>
    have HE : Hid (msgB M of = false) := by unfold Hid; rw [HI.out, h0]; rfl
    go_wp2_with (first
      | (go_at_call 53; refine (in21_any _ _ _ _).mono ?_; rintro e w' ⟨rfl, rfl⟩)
      | (go_at_call 58; refine (slotsOk_any lo _ M.sl _ (HK.out.below (HO _).out).l0).mono ?_; rintro e w' ⟨rfl, rfl⟩))
    go_ret
    exact ⟨ret_bool HE.out.symm, (HO _).out⟩
  | true =>
  cases h1 : inB 1 of M.fr with
  | false =>
    have HE : Hid (msgB M of = false) := by unfold Hid; rw [HI.out, h0, h1]; rfl
    go_wp2_with (first
      | (go_at_call 53; refine (in21_any _ _ _ _).mono ?_; rintro e w' ⟨rfl, rfl⟩)
      | (go_at_call 58; refine (slotsOk_any lo _ M.sl _ (HK.out.below (HO _).out).l0).mono ?_; rintro e w' ⟨rfl, rfl⟩))
    go_ret
    exact ⟨ret_bool HE.out.symm, (HO _).out⟩
  | true =>
  cases h2 : inB 1 of M.tt with
  | false =>
    have HE : Hid (msgB M of = false) := by unfold Hid; rw [HI.out, h0, h1, h2]; rfl
    go_wp2_with (first
      | (go_at_call 53; refine (in21_any _ _ _ _).mono ?_; rintro e w' ⟨rfl, rfl⟩)
      | (go_at_call 58; refine (slotsOk_any lo _ M.sl _ (HK.out.below (HO _).out).l0).mono ?_; rintro e w' ⟨rfl, rfl⟩))
    go_ret
    exact ⟨ret_bool HE.out.symm, (HO _).out⟩
  | true =>
  cases h3 : inB 0 1000000 M.ba with
  | false =>
    have HE : Hid (msgB M of = false) := by unfold Hid; rw [HI.out, h0, h1, h2, h3]; rfl
    go_wp2_with (first
      | (go_at_call 53; refine (in21_any _ _ _ _).mono ?_; rintro e w' ⟨rfl, rfl⟩)
      | (go_at_call 58; refine (slotsOk_any lo _ M.sl _ (HK.out.below (HO _).out).l0).mono ?_; rintro e w' ⟨rfl, rfl⟩))
    go_ret
    exact ⟨ret_bool HE.out.symm, (HO _).out⟩
  | true =>
  cases h4 : inB 0 120 M.ix with
  | false =>
    have HE : Hid (msgB M of = false) := by unfold Hid; rw [HI.out, h0, h1, h2, h3, h4]; rfl
    go_wp2_with (first
      | (go_at_call 53; refine (in21_any _ _ _ _).mono ?_; rintro e w' ⟨rfl, rfl⟩)
      | (go_at_call 58; refine (slotsOk_any lo _ M.sl _ (HK.out.below (HO _).out).l0).mono ?_; rintro e w' ⟨rfl, rfl⟩))
    go_ret
    exact ⟨ret_bool HE.out.symm, (HO _).out⟩
  | true =>
  cases h5 : inB 0 120 M.kn with
  | false =>
    have HE : Hid (msgB M of = false) := by unfold Hid; rw [HI.out, h0, h1, h2, h3, h4, h5]; rfl
    go_wp2_with (first
      | (go_at_call 53; refine (in21_any _ _ _ _).mono ?_; rintro e w' ⟨rfl, rfl⟩)
      | (go_at_call 58; refine (slotsOk_any lo _ M.sl _ (HK.out.below (HO _).out).l0).mono ?_; rintro e w' ⟨rfl, rfl⟩))
    go_ret
    exact ⟨ret_bool HE.out.symm, (HO _).out⟩
  | true =>
  by_cases h6 : M.tx.size ≤ 160
  case neg =>
    have HE : Hid (msgB M of = false) := by unfold Hid; rw [HI.out, h0, h1, h2, h3, h4, h5, decide_eq_false h6]; rfl
    have dd : decide ((M.tx.size : Int) ≤ 160) = false := by simp; omega
    go_wp2_with (first
      | (go_at_call 53; refine (in21_any _ _ _ _).mono ?_; rintro e w' ⟨rfl, rfl⟩)
      | (go_at_call 58; refine (slotsOk_any lo _ M.sl _ (HK.out.below (HO _).out).l0).mono ?_; rintro e w' ⟨rfl, rfl⟩))
    go_ret
    exact ⟨ret_bool HE.out.symm, (HO _).out⟩
  have dd : decide ((M.tx.size : Int) ≤ 160) = true := by simp; omega
  have HE : Hid (msgB M of = slotsB M.sl) := by unfold Hid; rw [HI.out, h0, h1, h2, h3, h4, h5, decide_eq_true h6]; rfl
  go_wp2_with (first
    | (go_at_call 53; refine (in21_any _ _ _ _).mono ?_; rintro e w' ⟨rfl, rfl⟩)
    | (go_at_call 58; refine (slotsOk_any lo _ M.sl _ (HK.out.below (HO _).out).l0).mono ?_; rintro e w' ⟨rfl, rfl⟩))
  go_ret
  exact ⟨ret_bool HE.out.symm, (HO _).out⟩
end Go.Proofs.Ytlednecohppljaa
