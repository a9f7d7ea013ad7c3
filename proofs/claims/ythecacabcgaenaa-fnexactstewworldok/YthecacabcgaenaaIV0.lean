
import Derived.Test.YthecacabcgaenaaIF
namespace Go.Proofs.Ythecacabcgaenaa
open Go.RowKit Go.Deep Go.Maps

def szB (B : Sb) : Bool := decide (B.ss.length ≤ 8) && (decide (B.cs.length ≤ 200) && decide (B.bs.length ≤ 6))
def ckBk (B : Sb) : Nat → Bool
  | 0 => inB 0 1000000 B.now
  | 1 => risR rSv B.ss && B.ss.all (svB B.now)
  | 2 => risR rBe B.bs && B.bs.all beB
  | _ => risR aheadB B.cs && B.cs.all (cpB B)
theorem ckBk_all {B : Sb} (h : szB B = true) : validB B = (ckBk B 0 && (ckBk B 1 && (ckBk B 2 && ckBk B 3))) := by
  unfold szB at h
  simp only [Bool.and_eq_true] at h
  simp only [validB, ckBk, h.1, h.2.1, h.2.2, Bool.true_and, Bool.and_comm (List.all _ _) (risR _ _)]
theorem ckBk_no {B : Sb} (h : szB B = false) : validB B = false := by
  unfold szB at h
  unfold validB
  cases h1 : decide (B.ss.length ≤ 8) with
  | false => simp
  | true =>
    cases h2 : decide (B.cs.length ≤ 200) with
    | false => simp
    | true =>
      rw [h1, h2] at h
      simp only [Bool.true_and] at h
      simp [h]
theorem and4 {f : Nat → Bool} {b : Bool} (h : b = (f 0 && (f 1 && (f 2 && f 3)))) : (∀ j, j < 4 → f j = true) → b = true := fun hf => by
  rw [h, hf 0 (by omega), hf 1 (by omega), hf 2 (by omega), hf 3 (by omega)]; rfl
theorem and4n {f : Nat → Bool} {b : Bool} (h : b = (f 0 && (f 1 && (f 2 && f 3)))) {j : Nat} (hj : j < 4) (hf : f j = false) : b = false := by
  have hj' : j = 0 ∨ j = 1 ∨ j = 2 ∨ j = 3 := by omega
  rcases hj' with rfl | rfl | rfl | rfl <;> simp [h, hf]

set_option maxRecDepth 100000 in
set_option maxHeartbeats 2000000 in
theorem sizesOk_any (lo : Nat) (sv cv bv : Value) (B : Sb) (w : World) (h : SbAt lo w sv cv bv B) :
    Calls Try.prog 48 #[.agg #[.int .i64 B.now, sv, cv, bv]] w fun e w' => e = .returned (.bool (szB B)) ∧ Below w.heap.size w w' := by
  obtain ⟨a0, k0, rfl⟩ := h.svs.form
  obtain ⟨a1, k1, rfl⟩ := h.cps.form
  obtain ⟨a2, k2, rfl⟩ := h.bes.form
  clear h
  go_enter Try.func48, Try.ntmps48
  by_cases h1 : B.ss.length ≤ 8
  · by_cases h2 : B.cs.length ≤ 200
    · by_cases h3 : B.bs.length ≤ 6
      all_goals
        go_wp2
        go_ret
        exact ⟨ret_bool (by unfold szB; simp [h1, h2, h3] <;> omega), one_al _ _⟩
    · go_wp2
      go_ret
      exact ⟨ret_bool (by unfold szB; simp [h2]), one_al _ _⟩
  · go_wp2
    go_ret
    exact ⟨ret_bool (by unfold szB; simp [h1]), one_al _ _⟩

set_option maxRecDepth 100000 in
set_option maxHeartbeats 8000000 in
theorem validIndex_any (lo : Nat) (sv cv bv : Value) (B : Sb) (w : World) (h : SbAt lo w sv cv bv B) :
    Calls Try.prog 33 #[.agg #[.int .i64 B.now, sv, cv, bv]] w fun e w' => Below w.heap.size w w' ∧ ((validB B = false ∧ e = .returned (.tuple #[.agg #[.int .i64 0, .slice none 0 0, .slice none 0 0, .slice none 0 0, .map none], .bool false])) ∨ (validB B = true ∧ ∃ m, IxAt w' m B ∧ e = .returned (.tuple #[.agg #[.int .i64 B.now, sv, cv, bv, .map (some m)], .bool true]))) := by
  have HK := hide h
  obtain ⟨a0, k0, rfl⟩ := h.svs.form
  obtain ⟨a1, k1, rfl⟩ := h.cps.form
  obtain ⟨a2, k2, rfl⟩ := h.bes.form
  clear h
  go_enter Try.func33, Try.ntmps33
  go_wp2_with fail
  generalize hWa : World.alloc (w.alloc _) _ = Wa
  have HB0 : Hid (Below w.heap.size w Wa) := by rw [← hWa]; exact (one_al w _).alloc (by simp) _
  have HP0 : Hid (Box Wa w.heap.size #[.int .i64 B.now, .slice a0 B.ss.length k0, .slice a1 B.cs.length k1, .slice a2 B.bs.length k2]) := by rw [← hWa]; exact (Box.new _ _ _ _ rfl).on (one_al _ _)
  have HR0 : Hid (Box Wa (w.heap.size + 1) #[.int .i64 0, .slice none 0 0, .slice none 0 0, .slice none 0 0, .map none]) := by rw [← hWa]; exact Box.new _ _ _ _ (by simp)
  clear hWa
  refine (sizesOk_any lo _ _ _ B _ (HK.out.below HB0.out)).mono ?_
  rintro e w1 ⟨rfl, hb1⟩
  have HB1 := hide (bt HB0.out hb1)
  have HP1 := hide (HP0.out.on hb1)
  have HR1 := hide (HR0.out.on hb1)
  clear hb1 HB0 HP0 HR0
  cases hsz : szB B with
  | false =>
    have HF : Hid (validB B = false) := ckBk_no hsz
    have r0 := HR1.out.cell
    have g0 := HR1.out.free
    go_wp2
    refine bodyPost_ret (v := .tuple #[.agg #[.int .i64 0, .slice none 0 0, .slice none 0 0, .slice none 0 0, .map none], .bool false]) (by simp [results, Try.results33, go_sem, r0]) rfl ⟨?_, Or.inl ⟨HF.out, rfl⟩⟩
    repeat (refine Below.setCell ?_ (by simp only []; omega) _)
    exact HB1.out
  | true =>
    have HSZ := hide hsz
    have hss : B.ss.length ≤ 8 := by unfold szB at hsz; simp at hsz; omega
    have hbs : B.bs.length ≤ 6 := by unfold szB at hsz; simp at hsz; omega
    clear hsz
    have p := HP1.out.cell
    go_wp2_with fail
    clear p
    refine (indexOf_any lo _ _ _ B _ (HK.out.below HB1.out) hss hbs).mono ?_
    rintro e w2 ⟨m, hmm, rfl, hb2, D, ho, hix⟩
    have hne : m ≠ w.heap.size + 1 := by have := HR1.out.lt; omega
    clear hmm
    have HB2 := hide (bt HB1.out hb2)
    have HR2 := hide (HR1.out.on hb2)
    have HI2 : Hid (IxAt w2 m B) := ⟨_, D, ho, hix⟩
    clear hb2 ho hix HB1 HP1 HR1 hss hbs
    go_wp2_with fail
    generalize hWb : w2.alloc _ = Wb
    have HBb : Hid (Below w.heap.size w Wb) := by rw [← hWb]; exact bt HB2.out (one_al _ _)
    have HRb : Hid (Box Wb (w.heap.size + 1) #[.int .i64 0, .slice none 0 0, .slice none 0 0, .slice none 0 0, .map none]) := by rw [← hWb]; exact HR2.out.on (one_al _ _)
    have HIb : Hid (IxAt Wb m B) := by rw [← hWb]; exact HI2.out.below (one_al _ _)
    have HXb : Hid (Box Wb w2.heap.size #[.int .i64 B.now, .slice a0 B.ss.length k0, .slice a1 B.cs.length k1, .slice a2 B.bs.length k2, .map (some m)]) := by rw [← hWb]; exact Box.new _ _ _ _ rfl
    clear hWb HR2 HI2
    have hw2 : w.heap.size ≤ w2.heap.size := HB2.out.size
    clear HB2
    refine (bkChecks_any _).mono ?_
    rintro e W1 ⟨rfl, hbx, hb3⟩
    have HB3 := hide (bt HBb.out hb3)
    have HR3 := hide (HRb.out.on hb3)
    have HIX := hide (HIb.out.below hb3)
    have HX3 := hide (HXb.out.on hb3)
    have HC3 := hide hbx
    clear hb3 hbx HRb HIb HXb HBb
    obtain ⟨cb, hcb⟩ : ∃ cb, Wb.heap.size = cb := ⟨_, rfl⟩
    rw [hcb] at HC3 ⊢
    clear hcb
    go_wp2
    go_loopw [15] (fun i wr => ∃ j : Nat, i = .int .i64 j ∧ j ≤ 4 ∧ Below w.heap.size w wr ∧ Below W1.heap.size W1 wr ∧ Box wr (w.heap.size + 1) #[.int .i64 0, .slice none 0 0, .slice none 0 0, .slice none 0 0, .map none] ∧ Box wr w2.heap.size #[.int .i64 B.now, .slice a0 B.ss.length k0, .slice a1 B.cs.length k1, .slice a2 B.bs.length k2, .map (some m)] ∧ Box wr cb #[.func (.func 55) #[] #[], .func (.func 56) #[] #[], .func (.func 57) #[] #[], .func (.func 58) #[] #[]] ∧ (∀ l, l < j → ckBk B l = true)) (fun i _ => 4 - (intOf i).toNat)
    case atStart => exact ⟨0, rfl, by omega, HB3.out, Below.refl _ _, HR3.out, HX3.out, HC3.out, fun l h => by omega⟩
    case round =>
      obtain ⟨j, rfl, hj, hb, hwj, hr, hx, hc, hall⟩ := hrel
      have HBj := hide hb
      have HWj := hide hwj
      have HRj := hide hr
      have HXj := hide hx
      have HCj := hide hc
      have HAj := hide hall
      clear hb hwj hr hx hc hall HB3 HR3 HX3 HC3
      by_cases hjl : j < 4
      · have x := HXj.out.cell
        have hj' : j = 0 ∨ j = 1 ∨ j = 2 ∨ j = 3 := by omega
        rcases hj' with rfl | rfl | rfl | rfl
        · have kc := HCj.out.cell 0
          simp at kc
          cases hq : ckBk B 0 with
          | false =>
            have HF : Hid (validB B = false) := and4n (ckBk_all HSZ.out) (by omega) hq
            go_wp2_with (go_at_call 55; refine (nowOk_any lo m _ _ _ B _ (HK.out.below HBj.out)).mono ?_; rintro e w3 ⟨he, hb3⟩; replace he := he.trans (congrArg (fun b => Ending.returned (.bool b)) hq); subst he; have HB3 := hide (bt HBj.out hb3); have HR3 := hide (HRj.out.on hb3); have r0 := HR3.out.cell; have g0 := HR3.out.free; clear hb3)
            refine bodyPost_ret (v := .tuple #[.agg #[.int .i64 0, .slice none 0 0, .slice none 0 0, .slice none 0 0, .map none], .bool false]) (by simp [results, Try.results33, go_sem, r0]) rfl ⟨?_, Or.inl ⟨HF.out, rfl⟩⟩
            repeat (refine Below.setCell ?_ (by simp only []; omega) _)
            exact HB3.out
          | true =>
            have HQ := hide hq
            go_wp2_with (go_at_call 55; refine (nowOk_any lo m _ _ _ B _ (HK.out.below HBj.out)).mono ?_; rintro e w3 ⟨he, hb3⟩; replace he := he.trans (congrArg (fun b => Ending.returned (.bool b)) HQ.out); subst he; have HB3 := hide (bt HBj.out hb3); have HW3 := hide (bt HWj.out hb3); have HR3 := hide (HRj.out.on hb3); have HX3 := hide (HXj.out.on hb3); have HC3 := hide (HCj.out.on hb3); clear hb3)
            go_roundw
            case rel => exact ⟨1, by go_num, by omega, HB3.out, HW3.out, HR3.out, HX3.out, HC3.out, fun l hl => by
                          by_cases e : l = 0
                          · rw [e]; exact HQ.out
                          · exact HAj.out l (by omega)⟩
            case measure => simp [intOf]
        · have kc := HCj.out.cell 1
          simp at kc
          cases hq : ckBk B 1 with
          | false =>
            have HF : Hid (validB B = false) := and4n (ckBk_all HSZ.out) (by omega) hq
            go_wp2_with (go_at_call 56; refine (svsOk_any lo m _ _ _ B _ (HK.out.below HBj.out)).mono ?_; rintro e w3 ⟨he, hb3⟩; replace he := he.trans (congrArg (fun b => Ending.returned (.bool b)) hq); subst he; have HB3 := hide (bt HBj.out hb3); have HR3 := hide (HRj.out.on hb3); have r0 := HR3.out.cell; have g0 := HR3.out.free; clear hb3)
            refine bodyPost_ret (v := .tuple #[.agg #[.int .i64 0, .slice none 0 0, .slice none 0 0, .slice none 0 0, .map none], .bool false]) (by simp [results, Try.results33, go_sem, r0]) rfl ⟨?_, Or.inl ⟨HF.out, rfl⟩⟩
            repeat (refine Below.setCell ?_ (by simp only []; omega) _)
            exact HB3.out
          | true =>
            have HQ := hide hq
            go_wp2_with (go_at_call 56; refine (svsOk_any lo m _ _ _ B _ (HK.out.below HBj.out)).mono ?_; rintro e w3 ⟨he, hb3⟩; replace he := he.trans (congrArg (fun b => Ending.returned (.bool b)) HQ.out); subst he; have HB3 := hide (bt HBj.out hb3); have HW3 := hide (bt HWj.out hb3); have HR3 := hide (HRj.out.on hb3); have HX3 := hide (HXj.out.on hb3); have HC3 := hide (HCj.out.on hb3); clear hb3)
            go_roundw
            case rel => exact ⟨2, by go_num, by omega, HB3.out, HW3.out, HR3.out, HX3.out, HC3.out, fun l hl => by
                          by_cases e : l = 1
                          · rw [e]; exact HQ.out
                          · exact HAj.out l (by omega)⟩
            case measure => simp [intOf]
        · have kc := HCj.out.cell 2
          simp at kc
          cases hq : ckBk B 2 with
          | false =>
            have HF : Hid (validB B = false) := and4n (ckBk_all HSZ.out) (by omega) hq
            go_wp2_with (go_at_call 57; refine (besOk_any lo m _ _ _ B _ (HK.out.below HBj.out)).mono ?_; rintro e w3 ⟨he, hb3⟩; replace he := he.trans (congrArg (fun b => Ending.returned (.bool b)) hq); subst he; have HB3 := hide (bt HBj.out hb3); have HR3 := hide (HRj.out.on hb3); have r0 := HR3.out.cell; have g0 := HR3.out.free; clear hb3)
            refine bodyPost_ret (v := .tuple #[.agg #[.int .i64 0, .slice none 0 0, .slice none 0 0, .slice none 0 0, .map none], .bool false]) (by simp [results, Try.results33, go_sem, r0]) rfl ⟨?_, Or.inl ⟨HF.out, rfl⟩⟩
            repeat (refine Below.setCell ?_ (by simp only []; omega) _)
            exact HB3.out
          | true =>
            have HQ := hide hq
            go_wp2_with (go_at_call 57; refine (besOk_any lo m _ _ _ B _ (HK.out.below HBj.out)).mono ?_; rintro e w3 ⟨he, hb3⟩; replace he := he.trans (congrArg (fun b => Ending.returned (.bool b)) HQ.out); subst he; have HB3 := hide (bt HBj.out hb3); have HW3 := hide (bt HWj.out hb3); have HR3 := hide (HRj.out.on hb3); have HX3 := hide (HXj.out.on hb3); have HC3 := hide (HCj.out.on hb3); clear hb3)
            go_roundw
            case rel => exact ⟨3, by go_num, by omega, HB3.out, HW3.out, HR3.out, HX3.out, HC3.out, fun l hl => by
                          by_cases e : l = 2
                          · rw [e]; exact HQ.out
                          · exact HAj.out l (by omega)⟩
            case measure => simp [intOf]
        · have kc := HCj.out.cell 3
          simp at kc
          have h1 := HAj.out 1 (by omega)
          have HU : Hid (risR rSv B.ss = true) := (Bool.and_eq_true_iff.1 h1).1
          have HSS : Hid (B.ss.all (svB B.now) = true) := (Bool.and_eq_true_iff.1 h1).2
          clear h1
          cases hq : ckBk B 3 with
          | false =>
            have HF : Hid (validB B = false) := and4n (ckBk_all HSZ.out) (by omega) hq
            go_wp2_with (go_at_call 58; refine (cpsOk_any lo m _ _ _ B _ (HK.out.below HBj.out) (HIX.out.below HWj.out) HU.out HSS.out).mono ?_; rintro e w3 ⟨he, hb3⟩; replace he := he.trans (congrArg (fun b => Ending.returned (.bool b)) hq); subst he; have HB3 := hide (bt HBj.out hb3); have HR3 := hide (HRj.out.on hb3); have r0 := HR3.out.cell; have g0 := HR3.out.free; clear hb3)
            refine bodyPost_ret (v := .tuple #[.agg #[.int .i64 0, .slice none 0 0, .slice none 0 0, .slice none 0 0, .map none], .bool false]) (by simp [results, Try.results33, go_sem, r0]) rfl ⟨?_, Or.inl ⟨HF.out, rfl⟩⟩
            repeat (refine Below.setCell ?_ (by simp only []; omega) _)
            exact HB3.out
          | true =>
            have HQ := hide hq
            go_wp2_with (go_at_call 58; refine (cpsOk_any lo m _ _ _ B _ (HK.out.below HBj.out) (HIX.out.below HWj.out) HU.out HSS.out).mono ?_; rintro e w3 ⟨he, hb3⟩; replace he := he.trans (congrArg (fun b => Ending.returned (.bool b)) HQ.out); subst he; have HB3 := hide (bt HBj.out hb3); have HW3 := hide (bt HWj.out hb3); have HR3 := hide (HRj.out.on hb3); have HX3 := hide (HXj.out.on hb3); have HC3 := hide (HCj.out.on hb3); clear hb3)
            go_roundw
            case rel => exact ⟨4, by go_num, by omega, HB3.out, HW3.out, HR3.out, HX3.out, HC3.out, fun l hl => by
                          by_cases e : l = 3
                          · rw [e]; exact HQ.out
                          · exact HAj.out l (by omega)⟩
            case measure => simp [intOf]
      · have hjn : j = 4 := by omega
        subst hjn
        have HT : Hid (validB B = true) := and4 (ckBk_all HSZ.out) HAj.out
        have x := HXj.out.cell
        have r0 := HRj.out.cell
        have g0 := HRj.out.free
        go_wp2
        refine bodyPost_ret (v := .tuple #[.agg #[.int .i64 B.now, .slice a0 B.ss.length k0, .slice a1 B.cs.length k1, .slice a2 B.bs.length k2, .map (some m)], .bool true]) (by simp [results, Try.results33, go_sem, r0]) rfl ⟨?_, Or.inr ⟨HT.out, m, ?_, rfl⟩⟩
        · repeat (refine Below.setCell ?_ (by simp only []; omega) _)
          exact HBj.out
        · obtain ⟨n, D, ho, hix⟩ := HIX.out.below HWj.out
          refine ⟨n, D, ?_, hix⟩
          repeat (refine World.ownsMap.setCell ?_ hne _)
          exact ho
end Go.Proofs.Ythecacabcgaenaa
