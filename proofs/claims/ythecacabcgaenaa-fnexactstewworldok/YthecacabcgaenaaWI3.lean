
import Derived.Test.YthecacabcgaenaaWI1
import Derived.Test.YthecacabcgaenaaWI2
namespace Go.Proofs.Ythecacabcgaenaa
open Go.RowKit Go.Deep

/-! impl.StewWorldOk -/
theorem risR_iff {L : List Sb} : risR rNow L = true ↔ ∀ j, j + 1 < L.length → ∀ (h0 : j < L.length) (h1 : j + 1 < L.length), L[j].now ≤ L[j + 1].now := by
  unfold risR
  rw [List.all_eq_true]
  constructor
  · intro h j hj h0 h1
    have := h (j + 1) (List.mem_range.2 hj)
    rw [risN_at hj] at this
    exact of_decide_eq_true this
  · intro h j hj
    have hj := List.mem_range.1 hj
    cases j with
    | zero => rfl
    | succ j =>
      rw [risN_at hj]
      exact decide_eq_true (h j hj (by omega) hj)
theorem ris_le {L : List Sb} (h : risR rNow L = true) : ∀ (d i : Nat) (h0 : i < L.length) (h1 : i + d < L.length), L[i].now ≤ L[i + d].now
  | 0, _, _, _ => Int.le_refl _
  | d + 1, i, h0, h1 => Int.le_trans (ris_le h d i h0 (by omega)) (risR_iff.1 h (i + d) (by omega) (by omega) (by omega))
theorem ris_snoc (L : List Sb) (B : Sb) : risR rNow (L ++ [B]) = true ↔ (∀ x ∈ L, x.now ≤ B.now) ∧ risR rNow L = true := by
  constructor
  · intro h
    have key : ∀ i (hi : i < L.length), (L ++ [B])[i]'(by simp; omega) = L[i] := fun i hi => List.getElem_append_left hi
    refine ⟨fun x hx => ?_, risR_iff.2 fun j hj h0 h1 => ?_⟩
    · obtain ⟨i, hi, rfl⟩ := List.getElem_of_mem hx
      have h2 := ris_le h (L.length - i) i (by simp; omega) (by simp; omega)
      rw [key i hi] at h2
      have e : (L ++ [B])[i + (L.length - i)]'(by simp; omega) = B := by
        rw [List.getElem_append_right (by omega)]
        simp
      rw [e] at h2
      exact h2
    · have h2 := risR_iff.1 h j (by simp; omega) (by simp; omega) (by simp; omega)
      rw [key j h0, key (j + 1) h1] at h2
      exact h2
  · rintro ⟨h1, h2⟩
    refine risR_iff.2 fun j hj k0 k1 => ?_
    have hj' : j < L.length := by simp at hj; omega
    rw [List.getElem_append_left hj']
    by_cases e : j + 1 < L.length
    · rw [List.getElem_append_left e]
      exact risR_iff.1 h2 j e hj' e
    · rw [List.getElem_append_right (by omega)]
      simp only [List.getElem_singleton]
      exact h1 _ (List.getElem_mem hj')
theorem world_same (L : List Sb) (B : Sb) : (L.all (pokB B.now) && risR rNow L) = (risR rNow (L ++ [B]) && L.all validB) := by
  rw [Bool.eq_iff_iff]
  simp only [Bool.and_eq_true, ris_snoc, List.all_eq_true, pokB, decide_eq_true_eq]
  constructor
  · rintro ⟨h1, h2⟩
    exact ⟨⟨fun x hx => (h1 x hx).2, h2⟩, fun x hx => (h1 x hx).1⟩
  · rintro ⟨⟨h1, h2⟩, h3⟩
    exact ⟨fun x hx => ⟨h3 x hx, h1 x hx⟩, h2⟩

set_option maxRecDepth 20000 in
set_option maxHeartbeats 8000000 in
theorem implWorld_any (lo : Nat) (cs : List Value) (U : Sw) (w : World) (h : SwC lo w cs U) :
    Calls Try.prog 7 #[.agg cs.toArray] w fun e w' => e = .returned (.bool (worldB U)) ∧ Below w.heap.size w w' := by
  obtain ⟨a0, k0, a1, k1, a2, k2, a3, k3, rfl, h⟩ := h
  show Calls Try.prog 7 #[.agg #[.slice a3 U.past.length k3, .int .i64 U.bk.now, .slice a0 U.bk.ss.length k0, .slice a1 U.bk.cs.length k1, .slice a2 U.bk.bs.length k2]] w _
  have HK := hide h
  have hm := h.ls.max
  unfold maxLen at hm
  clear h
  go_enter Try.func7, Try.ntmps7
  have HI : Hid (worldB U = (validB U.bk && (decide (U.past.length ≤ 8) && (U.past.all (pokB U.bk.now) && risR rNow U.past)))) := rfl
  by_cases l0 : U.past.length ≤ 8
  case neg =>
    have hgt : decide ((8 : Int) < (U.past.length : Int)) = true := by simp; omega
    have HE : Hid (worldB U = false) := by unfold Hid; rw [HI.out, decide_eq_false l0]; cases validB U.bk <;> rfl
    go_wp2_with fail
    go_ret
    exact ⟨ret_bool HE.out.symm, one_al _ _⟩
  have gl0 : decide ((8 : Int) < (U.past.length : Int)) = false := by simp; omega
  go_wp2_with fail
  generalize hWa : w.alloc _ = Wa
  have HB0 : Hid (Below w.heap.size w Wa) := by rw [← hWa]; exact one_al w _
  have HX0 : Hid (Box Wa w.heap.size #[.slice a3 U.past.length k3, .int .i64 U.bk.now, .slice a0 U.bk.ss.length k0, .slice a1 U.bk.cs.length k1, .slice a2 U.bk.bs.length k2]) := by rw [← hWa]; exact Box.new _ _ _ _ rfl
  clear hWa
  refine (implValid_any lo _ _ _ U.bk _ (HK.out.bk.below HB0.out)).mono ?_
  rintro e w1 ⟨rfl, hb1⟩
  have HB1 : Hid (Below w.heap.size w w1) := bt HB0.out hb1
  have HX1 := hide (HX0.out.on hb1)
  clear hb1 HB0 HX0
  cases h0 : validB U.bk with
  | false =>
    have HE : Hid (worldB U = false) := by unfold Hid; rw [HI.out, h0]; rfl
    go_wp2
    go_ret
    exact ⟨ret_bool HE.out.symm, HB1.out⟩
  | true =>
  have HE : Hid (worldB U = (risR rNow (U.past ++ [U.bk]) && U.past.all validB)) := by unfold Hid; rw [HI.out, h0, decide_eq_true l0, ← world_same]; rfl
  have c0 := HX1.out.cell
  have cl := HX1.out.lt
  clear h0 gl0
  go_wp2_with fail
  clear c0 cl
  generalize hWb : World.alloc (w1.alloc _) _ = Wb
  have hbb : Below w1.heap.size w1 Wb := by rw [← hWb]; exact (one_al w1 _).alloc (by simp) _
  have HY0 : Hid (Box Wb w1.heap.size #[.int .i64 U.bk.now, .slice a0 U.bk.ss.length k0, .slice a1 U.bk.cs.length k1, .slice a2 U.bk.bs.length k2]) := by rw [← hWb]; exact (Box.new _ _ _ _ rfl).on (one_al _ _)
  have HY1 : Hid (Box Wb (w1.heap.size + 1) #[.slice a3 U.past.length k3, .slice (some ⟨w1.heap.size, 0, none⟩) 1 1]) := by rw [← hWb]; exact Box.new _ _ _ _ (by simp)
  have HB2 : Hid (Below w.heap.size w Wb) := bt HB1.out hbb
  have HX2 := hide (HX1.out.on hbb)
  clear hWb hbb HB1 HX1
  refine (concat_any lo _ w1.heap.size _ U.past U.bk (sbL U.bk a0 k0 a1 k1 a2 k2) _ l0 ((HY1.out.cell 0).trans rfl) ((HY1.out.cell 1).trans rfl) (HK.out.ls.below HB2.out) (fun j u hu => by
      rw [Nat.zero_add, HY0.out.cell j]
      rw [← hu]
      exact (List.getElem?_toArray).trans rfl) ⟨a0, k0, a1, k1, a2, k2, rfl, HK.out.bk.below HB2.out⟩).mono ?_
  rintro e w3 ⟨v3, rfl, hs3, hb3⟩
  have HS3 := hide hs3
  have HB3 : Hid (Below w.heap.size w w3) := bt HB2.out hb3
  have HX3 := hide (HX2.out.on hb3)
  clear hs3 hb3 HY0 HY1 HB2 HX2
  go_wp2_with fail
  refine (sorted_any 0 _ _ _ HS3.out).mono ?_
  rintro e w4 ⟨rfl, hb4⟩
  have HB4 : Hid (Below w.heap.size w w4) := bt HB3.out hb4
  have HX4 := hide (HX3.out.on hb4)
  clear hb4 HS3 HB3 HX3
  cases h5 : risR rNow (U.past ++ [U.bk]) with
  | false =>
    have HF : Hid (worldB U = false) := by unfold Hid; rw [HE.out, h5]; rfl
    go_wp2
    go_ret
    exact ⟨ret_bool HF.out.symm, HB4.out⟩
  | true =>
  have HF : Hid (worldB U = U.past.all validB) := by unfold Hid; rw [HE.out, h5]; cases U.past.all validB <;> rfl
  have c0 := HX4.out.cell 0
  simp at c0
  clear h5
  go_wp2_with (go_at_call 18; refine (anyWrong_any lo _ U.past _ (HK.out.ls.below HB4.out)).mono ?_; rintro e w5 ⟨rfl, hb5⟩)
  go_ret
  exact ⟨ret_bool HF.out.symm, bt HB4.out hb5⟩
end Go.Proofs.Ythecacabcgaenaa
