import Derived.Test.YtemggnmooiaokaaGreatD51
namespace Go.Proofs.YtemggnmooiaokaaGreat
open Go.RowKit Go.Deep

set_option maxRecDepth 100000 in
set_option maxHeartbeats 8000000 in
theorem doneIn_any (lo m : Nat) (sv cv bv : Value) (B : Sb) (w : World) (h : SbAt lo w sv cv bv B) (hx : IxAt w m B) (hv : validB B = true) :
    Calls Tryz.prog 26 #[.agg #[.int .i64 B.now, sv, cv, bv, .map (some m)]] w fun e w' => e = .returned (.bool (doneB B)) ∧ Below w.heap.size w w' := by
  have HK := hide h
  have HX := hide hx
  have HV := hide hv
  obtain ⟨h8, -, -⟩ := valid_s8 hv
  obtain ⟨a0, k0, rfl⟩ := h.svs.form
  obtain ⟨a1, k1, rfl⟩ := h.cps.form
  obtain ⟨a2, k2, rfl⟩ := h.bes.form
  clear h hx hv
  go_enter Tryz.func26, Tryz.ntmps26
  go_wp2_with fail
  generalize hWa : w.alloc _ = Wa
  have HB : Hid (Below w.heap.size w Wa) := by unfold Hid; rw [← hWa]; exact one_al w _
  have FX : Hid (Box Wa w.heap.size #[.int .i64 B.now, .slice a0 B.ss.length k0, .slice a1 B.cs.length k1, .slice a2 B.bs.length k2, .map (some m)]) := by unfold Hid; rw [← hWa]; exact Box.new _ _ _ _ rfl
  clear hWa
  go_loopw [9] (fun i wr => ∃ k : Nat, i = .int .i64 k ∧ k ≤ B.ss.length ∧ Below w.heap.size w wr ∧ Box wr w.heap.size #[.int .i64 B.now, .slice a0 B.ss.length k0, .slice a1 B.cs.length k1, .slice a2 B.bs.length k2, .map (some m)] ∧ (∀ (j : Nat) (hj : j < B.ss.length), j < k → folB B.ss[j] = true)) (fun i _ => B.ss.length - (intOf i).toNat)
  case atStart => exact ⟨0, rfl, Nat.zero_le _, HB.out, FX.out, fun j _ hjk => by omega⟩
  case round =>
    obtain ⟨k, rfl, hk, hb, hf, hall⟩ := hrel
    replace HB := hide hb
    replace FX := hide hf
    have HALs := hide hall
    clear hb hf hall
    by_cases hlt : k < B.ss.length
    · have hmem : B.ss[k] ∈ B.ss := List.getElem_mem hlt
      have hper := svB_per ((valid_s8 HV.out).2.2 _ hmem)
      obtain ⟨sb, so, rfl, hsb, -, hcc⟩ := HK.out.svs.full' (by omega)
      obtain ⟨c0, c1, c2, c3, c4, c5, c6, c7, c8, c9, c10, c11, c12⟩ := (hcc k hlt).2.below HB.out hsb
      clear hcc hmem
      have HAt : Hid (folB B.ss[k] = false → B.ss.all folB = false) := fun h0 => by
        rw [List.all_eq_false]
        exact ⟨_, List.getElem_mem hlt, by simp [h0]⟩
      have HAu : Hid (folB B.ss[k] = true → ∀ (j : Nat) (hj : j < B.ss.length), j < k + 1 → folB B.ss[j] = true) := fun h0 j hj hjk => by
        by_cases e : j = k
        · subst e; exact h0
        · exact HALs.out j hj (by omega)
      obtain ⟨x, hx⟩ : ∃ x, x = B.ss[k] := ⟨_, rfl⟩
      rw [← hx] at c0 c1 c2 c3 c4 c5 c6 c7 c8 c9 c10 c11 c12 hper HAt HAu
      clear hx
      have i0 : (0 : Int) ≤ (k : Int) := by omega
      have i1' : (k : Int) < (B.ss.length : Int) := by omega
      have HO := fun o => hide (bt HB.out (one_al _ o))
      have HF := fun o => hide (FX.out.on (one_al _ o))
      go_wp2_with fail
      clear c0 c1 c2 c3 c4 c5 c6 c7 c8 c9 c10 c11 c12
      refine (follows_any x _ ⟨hper.1, hper.2.1, hper.2.2.1, hper.2.2.2.1, hper.2.2.2.2.1⟩).mono ?_
      rintro e w2 ⟨rfl, hb2⟩
      have HB2 := hide (bt (HO _).out hb2)
      have FX2 := hide ((HF _).out.on hb2)
      clear hb2 HO HF HB FX
      cases hfo : folB x with
      | true =>
        have HAx := hide (HAu.out hfo)
        go_wp2
        go_roundw
        case rel => exact ⟨k + 1, by go_num, by omega, HB2.out, FX2.out, HAx.out⟩
        case measure => simp [intOf]; omega
      | false =>
        have HE : Hid (doneB B = false) := by unfold Hid doneB; rw [HAt.out hfo]; simp
        go_wp2
        go_ret
        exact ⟨ret_bool HE.out.symm, HB2.out⟩
    · have HE : Hid (doneB B = zero5 (rankI B B.ss)) := by
        have : B.ss.all folB = true := by
          rw [List.all_eq_true]
          intro y hy
          obtain ⟨j, hj, rfl⟩ := List.getElem_of_mem hy
          exact HALs.out j hj (by omega)
        unfold Hid doneB
        rw [this, HV.out]
        rfl
      have HZ : Hid (zero5 (rankI B B.ss) = ((sumL sh0 B.ss == 0) && ((sumL (sh1 B) B.ss == 0) && ((sumL (sh2 B) B.ss == 0) && ((sumL (sh3 B) B.ss == 0) && (sumL (sh4 B) B.ss == 0)))))) := by
        unfold Hid
        simp [zero5, rankI]
      have px := FX.out.cell
      go_wp2_with fail
      clear px
      refine (rankIn_any lo m _ _ _ B _ (HK.out.below HB.out) (HX.out.below HB.out) HV.out).mono ?_
      rintro e w2 ⟨rfl, hb2⟩
      have HB2 := hide (bt HB.out hb2)
      clear hb2 HB FX
      generalize sumL sh0 B.ss = r0 at *
      generalize sumL (sh1 B) B.ss = r1 at *
      generalize sumL (sh2 B) B.ss = r2 at *
      generalize sumL (sh3 B) B.ss = r3 at *
      generalize sumL (sh4 B) B.ss = r4 at *
      dsimp only [r5]
      have heq := fun W : World => eq5 r0 r1 r2 r3 r4 W
      have HEE : Hid (doneB B = ((r0 == 0) && ((r1 == 0) && ((r2 == 0) && ((r3 == 0) && (r4 == 0)))))) := HE.out.trans HZ.out
      generalize ((r0 == 0) && ((r1 == 0) && ((r2 == 0) && ((r3 == 0) && (r4 == 0))))) = bb at *
      go_wp2
      go_ret
      exact ⟨ret_bool HEE.out.symm, HB2.out⟩

set_option maxRecDepth 100000 in
set_option maxHeartbeats 8000000 in
theorem implDone_any (lo : Nat) (sv cv bv : Value) (B : Sb) (w : World) (h : SbAt lo w sv cv bv B) :
    Calls Tryz.prog 8 #[.agg #[.int .i64 B.now, sv, cv, bv]] w fun e w' => e = .returned (.bool (doneB B)) ∧ Below w.heap.size w w' := by
  have HK := hide h
  obtain ⟨a0, k0, rfl⟩ := h.svs.form
  obtain ⟨a1, k1, rfl⟩ := h.cps.form
  obtain ⟨a2, k2, rfl⟩ := h.bes.form
  clear h
  go_enter Tryz.func8, Tryz.ntmps8
  go_wp2_with fail
  generalize hWa : w.alloc _ = Wa
  have HB0 : Hid (Below w.heap.size w Wa) := by unfold Hid; rw [← hWa]; exact one_al w _
  clear hWa
  refine (validIndex_any lo _ _ _ B _ (HK.out.below HB0.out)).mono ?_
  rintro e w1 ⟨hb1, hh⟩
  have HB1 := hide (bt HB0.out hb1)
  clear hb1 HB0
  rcases hh with ⟨hv, rfl⟩ | ⟨hv, m, hix, rfl⟩
  · have HE : Hid (doneB B = false) := by unfold Hid doneB; rw [hv]; rfl
    clear hv
    go_wp2
    go_ret
    exact ⟨ret_bool HE.out.symm, bt HB1.out (one_al _ _)⟩
  · have HIX := hide hix
    have HV := hide hv
    clear hix hv
    go_wp2_with fail
    have HO := fun o => hide (bt HB1.out (one_al _ o))
    refine (doneIn_any lo m _ _ _ B _ (HK.out.below (HO _).out) (HIX.out.below (one_al _ _)) HV.out).mono ?_
    rintro e w2 ⟨rfl, hb2⟩
    have HB2 := hide (bt (HO _).out hb2)
    clear hb2 HO
    go_wp2
    go_ret
    exact ⟨rfl, HB2.out⟩
end Go.Proofs.YtemggnmooiaokaaGreat
