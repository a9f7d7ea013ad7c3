import Derived.Test.YtfbfgljkiikabaaV46
import Derived.Test.YtfbfgljkiikabaaV47
import Derived.Test.YtfbfgljkiikabaaV48
import Derived.Test.YtfbfgljkiikabaaV50
namespace Go.Proofs.Ytfbfgljkiikabaa
open Go.RowKit Go.Deep

/-! both sides say the same -/
theorem zB_eq (n : Nat) : zB n = decide (n = 0) := by
  unfold zB
  rw [Bool.eq_iff_iff]
  simp
theorem pos_not (n : Nat) : decide (0 < n) = !decide (n = 0) := by
  rw [Bool.eq_iff_iff]; simp; omega
theorem pos_two (a b : Nat) : decide (0 < a + b) = !(decide (a = 0) && decide (b = 0)) := by
  rw [Bool.eq_iff_iff]; simp only [decide_eq_true_eq, Bool.not_eq_true', Bool.and_eq_false_iff, decide_eq_false_iff_not]; omega
theorem sum_three (a b c : Nat) : decide (a + b + c = 0) = (decide (a = 0) && (decide (b = 0) && decide (c = 0))) := by
  rw [Bool.eq_iff_iff]; simp only [decide_eq_true_eq, Bool.and_eq_true]; omega
theorem still_sum (a b : Nat) (d : Int) (h : 0 ≤ d) : (((a + b : Nat) : Int) + d == 0) = (decide (a = 0) && (decide (b = 0) && d == 0)) := by
  rw [Bool.eq_iff_iff]; simp only [beq_iff_eq, decide_eq_true_eq, Bool.and_eq_true]; omega
theorem valid_same (U : Rr) : validR U = validI U := by
  cases h6 : inB 0 1000000 U.hd with
  | false =>
    unfold validR validI restB
    rw [h6]
    simp
  | true =>
    have hd0 : 0 ≤ U.hd := by unfold inB at h6; simp at h6; omega
    unfold validR validI restB leadB soundB leadS tryS quietS stillB quietB
    rw [still_sum _ _ _ hd0, pos_not, pos_two, sum_three]
    simp only [zB_eq]
    generalize inB 1 5 U.of = b1
    generalize inB 1 U.of U.nu = b2
    generalize diskB U.sf = b3
    generalize diskB U.dk = b4
    generalize decide (U.he.length ≤ 400) = b5
    generalize (List.range U.he.length).all (heldB U) = b6
    generalize wishB U.wi = b7
    rw [h6]
    generalize numsB U.of U.ye = b8
    generalize slotsB U.be = b9
    generalize acksB U.of U.ac = b10
    generalize inB 1 U.dk.pr U.ba = b11
    generalize decide (U.ac.length = 0) = b12
    generalize decide (U.ye.length = 0) = b13
    generalize decide (U.be.length = 0) = b14
    generalize decide (U.he.length = 0) = b15
    generalize decide (U.wi.length = 0) = b16
    generalize (U.ba == 0) = b17
    generalize (U.hd == 0) = b18
    generalize U.up = b19
    generalize U.ld = b20
    generalize U.ty = b21
    cases b1 <;> (try rfl)
    cases b2 <;> (try rfl)
    cases b3 <;> (try rfl)
    cases b4 <;> (try rfl)
    cases b5 <;> (try rfl)
    cases b7 <;> (try (cases b6 <;> rfl))
    cases b6 <;> (try rfl)
    cases b8 <;> (try rfl)
    cases b9 <;> (try rfl)
    cases b10 <;> (try rfl)
    cases b20 <;> cases b21 <;> cases b19 <;> cases b11 <;> cases b12 <;> cases b13 <;> cases b14 <;> (try rfl) <;> cases b17 <;> (try rfl) <;> cases b15 <;> (try rfl) <;> cases b16 <;> (try rfl) <;> cases b18 <;> rfl
theorem implValidR_any (lo : Nat) (cs : List Value) (U : Rr) (w : World) (h : RrC lo w cs U) :
    Calls Try.prog 34 #[.agg cs.toArray] w fun e w' => e = .returned (.bool (validR U)) ∧ Below w.heap.size w w' := by
  rw [valid_same]
  cases ha : (ahead9 U).all id with
  | false => exact validNo_any lo cs U w h ha
  | true =>
    unfold ahead9 at ha
    simp only [List.all_cons, List.all_nil, Bool.and_true, id, Bool.and_eq_true] at ha
    obtain ⟨⟨h1, h1'⟩, h2, h3, ⟨h4, h4'⟩, h5, h6, h7, h8, h9⟩ := ha
    have e1 : (inB 1 5 U.of && inB 1 U.of U.nu) = true := by rw [h1, h1']; rfl
    have e4 : (decide (U.he.length ≤ 400) && (List.range U.he.length).all (heldB U)) = true := by rw [h4, h4']; rfl
    cases ql : U.ld with
    | true => exact valid_lead lo cs U w h e1 h2 h3 e4 h5 h6 h7 h8 h9 ql
    | false =>
      cases qt : U.ty with
      | true => exact valid_try lo cs U w h e1 h2 h3 e4 h5 h6 h7 h8 h9 ql qt
      | false => exact valid_quiet lo cs U w h e1 h2 h3 e4 h5 h6 h7 h8 h9 ql qt
end Go.Proofs.Ytfbfgljkiikabaa
namespace Go.Proofs.Ytfbfgljkiikabaa
open Go.RowKit Go.Deep

theorem nw_own (n of : Int) (up : Bool) (lo hi : Nat) (h : lo ≤ hi) (w : World) : RrOwn lo hi w (nwL n of up) (nwU n of up) :=
  ⟨none, 0, none, 0, none, 0, none, 0, none, 0, none, 0, none, 0, fun _ => (lo, lo), rfl, ⟨fun _ _ => ⟨Nat.le_refl _, h⟩, fun _ _ _ _ _ => Or.inl (Nat.le_refl _), Or.inl ⟨none, 0, rfl, rfl⟩, Or.inl ⟨none, 0, rfl, rfl⟩, Or.inl ⟨none, 0, rfl, rfl⟩, Or.inl ⟨none, 0, rfl, rfl⟩, Or.inl ⟨none, 0, rfl, rfl⟩, Or.inl ⟨none, 0, rfl, rfl⟩, Or.inl ⟨none, 0, rfl, rfl⟩⟩⟩
theorem RrOwn.wide {lo hi lo' hi' : Nat} {w : World} {cs : List Value} {U : Rr} (h : RrOwn lo hi w cs U) (h1 : lo' ≤ lo) (h2 : hi ≤ hi') : RrOwn lo' hi' w cs U := by
  obtain ⟨a0, k0, a1, k1, a2, k2, a3, k3, a4, k4, a5, k5, a6, k6, c, e, h⟩ := h
  exact ⟨a0, k0, a1, k1, a2, k2, a3, k3, a4, k4, a5, k5, a6, k6, c, e, ⟨fun i hi => ⟨Nat.le_trans h1 (h.seg i hi).1, Nat.le_trans (h.seg i hi).2 h2⟩, h.ap, h.o0, h.o1, h.o2, h.o3, h.o4, h.o5, h.o6⟩⟩
theorem valid_bal {U : Rr} (h : validR U = true) : ∀ i (hi : i < U.dk.sl.length), (i : Int) < U.dk.kn → 0 < U.dk.sl[i].ba := by
  intro i hi hk
  unfold validR at h
  simp only [Bool.and_eq_true] at h
  have h2 := h.2.2.2.1
  unfold diskB at h2
  simp only [Bool.and_eq_true] at h2
  have h3 := range_is hi h2.2.2.2
  rw [dokB_at hi] at h3
  have h4 := h2.2.1
  unfold slotsB at h4
  simp only [Bool.and_eq_true] at h4
  have h5 := List.all_eq_true.1 h4.2 _ (List.getElem_mem hi)
  unfold slotB at h5
  rw [inB_eq] at h5
  simp only [Bool.and_eq_true, decide_eq_true_eq] at h5
  simp only [decide_eq_true hk, Bool.true_and, Bool.not_eq_true', Bool.or_eq_false_iff] at h3
  have h6 : ¬ U.dk.sl[i].ba = 0 := by simpa using h3.2
  omega
theorem valid_wi {U : Rr} (h : validR U = true) : U.wi.length ≤ 20 := by
  unfold validR at h
  simp only [Bool.and_eq_true] at h
  have h2 := h.2.2.2.2.2.1
  unfold wishB at h2
  simp only [Bool.and_eq_true, decide_eq_true_eq] at h2
  have := h2.1
  omega
theorem has_tx {L : List Rs} {tx : ByteArray} (h : ∀ x ∈ L, 0 < x.ba) : hasSl L tx = txSl L tx := by
  unfold hasSl txSl
  induction L with
  | nil => rfl
  | cons x r ih =>
    simp only [List.any_cons]
    rw [ih (fun y hy => h y (List.mem_cons_of_mem _ hy)), decide_eq_true (h x (List.mem_cons_self ..)), Bool.true_and]
theorem wish_same {U : Rr} (h : validR U = true) (tx : ByteArray) : wishU U tx = wishI U tx := by
  have hk := valid_kn h
  have e : hasSl (U.dk.sl.take U.dk.kn.toNat) tx = txSl (U.dk.sl.take U.dk.kn.toNat) tx := has_tx fun x hx => by
    obtain ⟨i, hi, rfl⟩ := List.mem_iff_getElem.1 hx
    rw [List.length_take] at hi
    rw [List.getElem_take]
    exact valid_bal h i (by omega) (by omega)
  have e2 : wishOkB U tx = wishBI U tx := by
    unfold wishOkB wishBI
    rw [e, inB_eq]
    have e3 : (!decide ((tx.size : Int) < 1)) = decide (1 ≤ (tx.size : Int)) := by rw [← decide_not]; exact decide_eq_decide.2 (by omega)
    have e4 : (!decide (160 < (tx.size : Int))) = decide ((tx.size : Int) ≤ 160) := by rw [← decide_not]; exact decide_eq_decide.2 (by omega)
    have e5 : (!decide (20 ≤ (U.wi.length : Int))) = decide ((U.wi.length : Int) < 20) := by rw [← decide_not]; exact decide_eq_decide.2 (by omega)
    rw [e3, e4, e5]
    cases decide (1 ≤ (tx.size : Int)) <;> cases decide ((tx.size : Int) ≤ 160) <;> cases decide ((U.wi.length : Int) < 20) <;> cases txSl (U.dk.sl.take U.dk.kn.toNat) tx <;> cases (U.wi.any fun s => s.toList == tx.toList) <;> rfl
  unfold wishU wishI
  rw [e2]
theorem wish_z {U : Rr} (h : RrZ U) {tx : ByteArray} (ht : tx.size ≤ maxLen) : RrZ (wishI U tx) := by
  unfold wishI
  split
  · refine ⟨h.z0, h.z1, h.z2, fun i hi => ?_, h.z5⟩
    simp only [List.getElem_append]
    split
    · exact h.z3 i (by assumption)
    · simpa using ht
  · exact h
end Go.Proofs.Ytfbfgljkiikabaa
