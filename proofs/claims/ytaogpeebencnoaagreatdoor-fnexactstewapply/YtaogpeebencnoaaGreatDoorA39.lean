import Derived.Test.YtaogpeebencnoaaGreatDoorA25
import Derived.Test.YtaogpeebencnoaaGreatDoorA37
import Derived.Test.YtaogpeebencnoaaGreatDoorA38
namespace Go.Proofs.YtaogpeebencnoaaGreatDoor
open Go.RowKit Go.Deep Go.Maps

/-- one box, above a world -/
abbrev HeldI (W0 : World) (b1 : Nat) (cs1 : Array Value) (W : World) : Prop := (∀ i, W.cell? ⟨b1, i, none⟩ = cs1[i]?) ∧ Hid (Below W0.heap.size W0 W ∧ b1 < W0.heap.size)
theorem HeldI.drew {W0 : World} {b1 : Nat} {cs1 : Array Value} (h1 : Box W0 b1 cs1) : HeldI W0 b1 cs1 W0.drew := ⟨h1.cell, (Below.refl _ _).drew, h1.lt⟩
theorem HeldI.on {W0 W W' : World} {b1 : Nat} {cs1 : Array Value} (h : HeldI W0 b1 cs1 W) (hb : Below W.heap.size W W') : HeldI W0 b1 cs1 W' := by
  obtain ⟨h1, h4⟩ := h
  have hz := h4.out.1.size
  have q1 := h4.out.2
  exact ⟨fun i => (hb.cell (p := ⟨b1, i, none⟩) (show b1 < W.heap.size by omega)).trans (h1 i), h4.out.1.trans (hb.mono hz), q1⟩

set_option maxHeartbeats 1000000 in
theorem svChecks_any (w : World) :
    Calls Tryz.prog 91 #[] w fun e w' => e = .returned (.slice (some ⟨w.heap.size, 0, none⟩) 5 5) ∧ Box w' w.heap.size #[.func (.func 117) #[] #[], .func (.func 118) #[] #[], .func (.func 119) #[] #[], .func (.func 120) #[] #[], .func (.func 121) #[] #[]] ∧ Below w.heap.size w w' := by
  go_enter Tryz.func91, Tryz.ntmps91
  go_wp2
  go_ret
  exact ⟨rfl, Box.new _ _ _ _ rfl, one_al _ _⟩

set_option maxHeartbeats 1000000 in
theorem beChecks_any (w : World) :
    Calls Tryz.prog 95 #[] w fun e w' => e = .returned (.slice (some ⟨w.heap.size, 0, none⟩) 1 1) ∧ Box w' w.heap.size #[.func (.func 122) #[] #[]] ∧ Below w.heap.size w w' := by
  go_enter Tryz.func95, Tryz.ntmps95
  go_wp2
  go_ret
  exact ⟨rfl, Box.new _ _ _ _ rfl, one_al _ _⟩

set_option maxHeartbeats 1000000 in
theorem cpChecks_any (w : World) :
    Calls Tryz.prog 99 #[] w fun e w' => e = .returned (.slice (some ⟨w.heap.size, 0, none⟩) 3 3) ∧ Box w' w.heap.size #[.func (.func 125) #[] #[], .func (.func 126) #[] #[], .func (.func 127) #[] #[]] ∧ Below w.heap.size w w' := by
  go_enter Tryz.func99, Tryz.ntmps99
  go_wp2
  go_ret
  exact ⟨rfl, Box.new _ _ _ _ rfl, one_al _ _⟩

set_option maxHeartbeats 1000000 in
theorem bkChecks_any (w : World) :
    Calls Tryz.prog 60 #[] w fun e w' => e = .returned (.slice (some ⟨w.heap.size, 0, none⟩) 4 4) ∧ Box w' w.heap.size #[.func (.func 74) #[] #[], .func (.func 75) #[] #[], .func (.func 76) #[] #[], .func (.func 77) #[] #[]] ∧ Below w.heap.size w w' := by
  go_enter Tryz.func60, Tryz.ntmps60
  go_wp2
  go_ret
  exact ⟨rfl, Box.new _ _ _ _ rfl, one_al _ _⟩

set_option maxRecDepth 100000 in
set_option maxHeartbeats 8000000 in
theorem svsOk_any (lo m : Nat) (sv cv bv : Value) (B : Sb) (w : World) (h : SbAt lo w sv cv bv B) :
    Calls Tryz.prog 75 #[.agg #[.int .i64 B.now, sv, cv, bv, .map (some m)]] w fun e w' => e = .returned (.bool (risR rSv B.ss && B.ss.all (svB B.now))) ∧ Below w.heap.size w w' := by
  have HK := hide h
  obtain ⟨a0, k0, rfl⟩ := h.svs.form
  obtain ⟨a1, k1, rfl⟩ := h.cps.form
  obtain ⟨a2, k2, rfl⟩ := h.bes.form
  clear h
  go_enter Tryz.func75, Tryz.ntmps75
  go_wp2
  generalize hWa : w.alloc _ = Wa
  have HB0 : Hid (Below w.heap.size w Wa) := by rw [← hWa]; exact one_al w _
  have HX0 : Hid (Box Wa w.heap.size #[.int .i64 B.now, .slice a0 B.ss.length k0, .slice a1 B.cs.length k1, .slice a2 B.bs.length k2, .map (some m)]) := by rw [← hWa]; exact Box.new _ _ _ _ rfl
  clear hWa
  have K := hide (HK.out.below HB0.out)
  cases hq : risR rSv B.ss with
  | false =>
    have xn : Nonempty (In (Up Wa)) := ⟨⟨Wa, Below.refl _ _⟩⟩
    have xs := fun (X : In (Up Wa)) => in_self X
    have x1 : ∀ X : In (Up Wa), X.w.cell? ⟨w.heap.size, 1, none⟩ = some (.slice a0 B.ss.length k0) := fun X => Up.cell X (by rw [HX0.out.cell 1]; rfl)
    have x2 : ∀ X : In (Up Wa), X.w.cell? ⟨w.heap.size, 2, none⟩ = some (.slice a1 B.cs.length k1) := fun X => Up.cell X (by rw [HX0.out.cell 2]; rfl)
    have x3 : ∀ X : In (Up Wa), X.w.cell? ⟨w.heap.size, 3, none⟩ = some (.slice a2 B.bs.length k2) := fun X => Up.cell X (by rw [HX0.out.cell 3]; rfl)
    refine wp_region_class (Up Wa) (by kernel_rfl) (by kernel_rfl) ((Below.refl _ _).drew) ?_
    repeat (go_big_quiet_step ((go_at_call 88; rename_i X; exact (ascSv_any lo _ B.ss _ (K.out.below X.h).svs).mono fun _ _ h => ⟨h.1.trans (congrArg (fun b => Ending.returned (.bool b)) hq), Up.next X h.2⟩)))
    refine wpQuiet_nil ?_
    intro wn hw
    obtain ⟨X, hX⟩ := hw
    have HWN : Hid (Below Wa.heap.size Wa wn) := by unfold Hid; rw [hX]; exact X.h
    clear hX X x1 x2 x3 xs xn
    go_wp2
    go_ret
    exact ⟨ret_bool (by rw [hq]; rfl), bt HB0.out HWN.out⟩
  | true =>
    go_region_held3 (HeldI Wa w.heap.size #[.int .i64 B.now, .slice a0 B.ss.length k0, .slice a1 B.cs.length k1, .slice a2 B.bs.length k2, .map (some m)])
      (first
        | (with_reducible exact HeldI.drew HX0.out)
        | (with_reducible exact HeldI.on (by assumption) (by assumption)))
      (first
        | (go_at_call 88
           refine (ascSv_any lo _ B.ss _ (K.out.below ((Below.refl _ _).drew)).svs).mono ?_
           rintro e w1 ⟨he, hb1⟩
           replace he := he.trans (congrArg (fun b => Ending.returned (.bool b)) hq)
           subst he
           have C1 : Hid (Below Wa.heap.size Wa w1) := bt ((Below.refl _ _).drew) hb1)
        | (go_at_call 91
           refine (svChecks_any _).mono ?_
           rintro e w2 ⟨rfl, hbx, hb2⟩
           have C2 : Hid (Below Wa.heap.size Wa w2) := bt C1.out hb2
           have CX := hide hbx
           clear hbx)
        | (go_at_call 90
           refine (eachSv_any lo m _ _ _ _ _ B B.ss _ (K.out.below C2.out) (K.out.below C2.out).svs CX.out).mono ?_
           rintro e w3 ⟨rfl, hb3⟩
           have C3 : Hid (Below Wa.heap.size Wa w3) := bt C2.out hb3))
    go_wp2
    go_ret
    exact ⟨ret_bool (by rw [hq]; rfl), bt HB0.out C3.out⟩

set_option maxRecDepth 100000 in
set_option maxHeartbeats 8000000 in
theorem besOk_any (lo m : Nat) (sv cv bv : Value) (B : Sb) (w : World) (h : SbAt lo w sv cv bv B) :
    Calls Tryz.prog 76 #[.agg #[.int .i64 B.now, sv, cv, bv, .map (some m)]] w fun e w' => e = .returned (.bool (risR rBe B.bs && B.bs.all (beB))) ∧ Below w.heap.size w w' := by
  have HK := hide h
  obtain ⟨a0, k0, rfl⟩ := h.svs.form
  obtain ⟨a1, k1, rfl⟩ := h.cps.form
  obtain ⟨a2, k2, rfl⟩ := h.bes.form
  clear h
  go_enter Tryz.func76, Tryz.ntmps76
  go_wp2
  generalize hWa : w.alloc _ = Wa
  have HB0 : Hid (Below w.heap.size w Wa) := by rw [← hWa]; exact one_al w _
  have HX0 : Hid (Box Wa w.heap.size #[.int .i64 B.now, .slice a0 B.ss.length k0, .slice a1 B.cs.length k1, .slice a2 B.bs.length k2, .map (some m)]) := by rw [← hWa]; exact Box.new _ _ _ _ rfl
  clear hWa
  have K := hide (HK.out.below HB0.out)
  cases hq : risR rBe B.bs with
  | false =>
    have xn : Nonempty (In (Up Wa)) := ⟨⟨Wa, Below.refl _ _⟩⟩
    have xs := fun (X : In (Up Wa)) => in_self X
    have x1 : ∀ X : In (Up Wa), X.w.cell? ⟨w.heap.size, 1, none⟩ = some (.slice a0 B.ss.length k0) := fun X => Up.cell X (by rw [HX0.out.cell 1]; rfl)
    have x2 : ∀ X : In (Up Wa), X.w.cell? ⟨w.heap.size, 2, none⟩ = some (.slice a1 B.cs.length k1) := fun X => Up.cell X (by rw [HX0.out.cell 2]; rfl)
    have x3 : ∀ X : In (Up Wa), X.w.cell? ⟨w.heap.size, 3, none⟩ = some (.slice a2 B.bs.length k2) := fun X => Up.cell X (by rw [HX0.out.cell 3]; rfl)
    refine wp_region_class (Up Wa) (by kernel_rfl) (by kernel_rfl) ((Below.refl _ _).drew) ?_
    repeat (go_big_quiet_step ((go_at_call 92; rename_i X; exact (ascBe_any lo _ B.bs _ (K.out.below X.h).bes).mono fun _ _ h => ⟨h.1.trans (congrArg (fun b => Ending.returned (.bool b)) hq), Up.next X h.2⟩)))
    refine wpQuiet_nil ?_
    intro wn hw
    obtain ⟨X, hX⟩ := hw
    have HWN : Hid (Below Wa.heap.size Wa wn) := by unfold Hid; rw [hX]; exact X.h
    clear hX X x1 x2 x3 xs xn
    go_wp2
    go_ret
    exact ⟨ret_bool (by rw [hq]; rfl), bt HB0.out HWN.out⟩
  | true =>
    go_region_held3 (HeldI Wa w.heap.size #[.int .i64 B.now, .slice a0 B.ss.length k0, .slice a1 B.cs.length k1, .slice a2 B.bs.length k2, .map (some m)])
      (first
        | (with_reducible exact HeldI.drew HX0.out)
        | (with_reducible exact HeldI.on (by assumption) (by assumption)))
      (first
        | (go_at_call 92
           refine (ascBe_any lo _ B.bs _ (K.out.below ((Below.refl _ _).drew)).bes).mono ?_
           rintro e w1 ⟨he, hb1⟩
           replace he := he.trans (congrArg (fun b => Ending.returned (.bool b)) hq)
           subst he
           have C1 : Hid (Below Wa.heap.size Wa w1) := bt ((Below.refl _ _).drew) hb1)
        | (go_at_call 95
           refine (beChecks_any _).mono ?_
           rintro e w2 ⟨rfl, hbx, hb2⟩
           have C2 : Hid (Below Wa.heap.size Wa w2) := bt C1.out hb2
           have CX := hide hbx
           clear hbx)
        | (go_at_call 94
           refine (eachBe_any lo m _ _ _ _ _ B B.bs _ (K.out.below C2.out) (K.out.below C2.out).bes CX.out).mono ?_
           rintro e w3 ⟨rfl, hb3⟩
           have C3 : Hid (Below Wa.heap.size Wa w3) := bt C2.out hb3))
    go_wp2
    go_ret
    exact ⟨ret_bool (by rw [hq]; rfl), bt HB0.out C3.out⟩

set_option maxRecDepth 100000 in
set_option maxHeartbeats 8000000 in
theorem cpsOk_any (lo m : Nat) (sv cv bv : Value) (B : Sb) (w : World) (h : SbAt lo w sv cv bv B) (hx : IxAt w m B) (hu : risR rSv B.ss = true) (hss : B.ss.all (svB B.now) = true) :
    Calls Tryz.prog 77 #[.agg #[.int .i64 B.now, sv, cv, bv, .map (some m)]] w fun e w' => e = .returned (.bool (risR aheadB B.cs && B.cs.all (cpB B))) ∧ Below w.heap.size w w' := by
  have HK := hide h
  have HIX := hide hx
  have HU := hide hu
  have HSS := hide hss
  clear hx hu hss
  obtain ⟨a0, k0, rfl⟩ := h.svs.form
  obtain ⟨a1, k1, rfl⟩ := h.cps.form
  obtain ⟨a2, k2, rfl⟩ := h.bes.form
  clear h
  go_enter Tryz.func77, Tryz.ntmps77
  go_wp2
  generalize hWa : w.alloc _ = Wa
  have HB0 : Hid (Below w.heap.size w Wa) := by rw [← hWa]; exact one_al w _
  have HX0 : Hid (Box Wa w.heap.size #[.int .i64 B.now, .slice a0 B.ss.length k0, .slice a1 B.cs.length k1, .slice a2 B.bs.length k2, .map (some m)]) := by rw [← hWa]; exact Box.new _ _ _ _ rfl
  clear hWa
  have K := hide (HK.out.below HB0.out)
  cases hq : risR aheadB B.cs with
  | false =>
    have xn : Nonempty (In (Up Wa)) := ⟨⟨Wa, Below.refl _ _⟩⟩
    have xs := fun (X : In (Up Wa)) => in_self X
    have x1 : ∀ X : In (Up Wa), X.w.cell? ⟨w.heap.size, 1, none⟩ = some (.slice a0 B.ss.length k0) := fun X => Up.cell X (by rw [HX0.out.cell 1]; rfl)
    have x2 : ∀ X : In (Up Wa), X.w.cell? ⟨w.heap.size, 2, none⟩ = some (.slice a1 B.cs.length k1) := fun X => Up.cell X (by rw [HX0.out.cell 2]; rfl)
    have x3 : ∀ X : In (Up Wa), X.w.cell? ⟨w.heap.size, 3, none⟩ = some (.slice a2 B.bs.length k2) := fun X => Up.cell X (by rw [HX0.out.cell 3]; rfl)
    refine wp_region_class (Up Wa) (by kernel_rfl) (by kernel_rfl) ((Below.refl _ _).drew) ?_
    repeat (go_big_quiet_step ((go_at_call 96; rename_i X; exact (ascCp_any lo _ B.cs _ (K.out.below X.h).cps).mono fun _ _ h => ⟨h.1.trans (congrArg (fun b => Ending.returned (.bool b)) hq), Up.next X h.2⟩)))
    refine wpQuiet_nil ?_
    intro wn hw
    obtain ⟨X, hX⟩ := hw
    have HWN : Hid (Below Wa.heap.size Wa wn) := by unfold Hid; rw [hX]; exact X.h
    clear hX X x1 x2 x3 xs xn
    go_wp2
    go_ret
    exact ⟨ret_bool (by rw [hq]; rfl), bt HB0.out HWN.out⟩
  | true =>
    go_region_held3 (HeldI Wa w.heap.size #[.int .i64 B.now, .slice a0 B.ss.length k0, .slice a1 B.cs.length k1, .slice a2 B.bs.length k2, .map (some m)])
      (first
        | (with_reducible exact HeldI.drew HX0.out)
        | (with_reducible exact HeldI.on (by assumption) (by assumption)))
      (first
        | (go_at_call 96
           refine (ascCp_any lo _ B.cs _ (K.out.below ((Below.refl _ _).drew)).cps).mono ?_
           rintro e w1 ⟨he, hb1⟩
           replace he := he.trans (congrArg (fun b => Ending.returned (.bool b)) hq)
           subst he
           have C1 : Hid (Below Wa.heap.size Wa w1) := bt ((Below.refl _ _).drew) hb1)
        | (go_at_call 99
           refine (cpChecks_any _).mono ?_
           rintro e w2 ⟨rfl, hbx, hb2⟩
           have C2 : Hid (Below Wa.heap.size Wa w2) := bt C1.out hb2
           have CX := hide hbx
           clear hbx)
        | (go_at_call 98
           refine (eachCp_any lo m _ _ _ _ _ B B.cs _ (K.out.below C2.out) (K.out.below C2.out).cps CX.out (HIX.out.below (bt HB0.out C2.out)) HU.out HSS.out).mono ?_
           rintro e w3 ⟨rfl, hb3⟩
           have C3 : Hid (Below Wa.heap.size Wa w3) := bt C2.out hb3))
    go_wp2
    go_ret
    exact ⟨ret_bool (by rw [hq]; rfl), bt HB0.out C3.out⟩

end Go.Proofs.YtaogpeebencnoaaGreatDoor
namespace Go.Proofs.YtaogpeebencnoaaGreatDoor
open Go.RowKit Go.Deep Go.Maps

def szB (B : Sb) : Bool := decide (B.ss.length ≤ 8) && (decide (B.cs.length ≤ 200) && decide (B.bs.length ≤ 6))
def ckBk (B : Sb) : Nat → Bool
  | 0 => inB 0 1000000 B.now
  | 1 => risR rSv B.ss && B.ss.all (svB B.now)
  | 2 => risR rBe B.bs && B.bs.all beB
  | _ => risR aheadB B.cs && B.cs.all (cpB B)
theorem ckBk_all {B : Sb} (h : szB B = true) : validB B = (ckBk B 0 && (ckBk B 1 && (ckBk B 2 && ckBk B 3))) := by
  unfold szB at h
  simp only [Bool.and_eq_true] at h
  simp only [validB, ckBk, h.1, h.2.1, h.2.2, Bool.true_and, Bool.and_comm (List.all _ _) (risR _ _)]
theorem ckBk_no {B : Sb} (h : szB B = false) : validB B = false := by
  unfold szB at h
  unfold validB
  cases h1 : decide (B.ss.length ≤ 8) with
  | false => simp
  | true =>
    cases h2 : decide (B.cs.length ≤ 200) with
    | false => simp
    | true =>
      rw [h1, h2] at h
      simp only [Bool.true_and] at h
      simp [h]
theorem and4 {f : Nat → Bool} {b : Bool} (h : b = (f 0 && (f 1 && (f 2 && f 3)))) : (∀ j, j < 4 → f j = true) → b = true := fun hf => by
  rw [h, hf 0 (by omega), hf 1 (by omega), hf 2 (by omega), hf 3 (by omega)]; rfl
theorem and4n {f : Nat → Bool} {b : Bool} (h : b = (f 0 && (f 1 && (f 2 && f 3)))) {j : Nat} (hj : j < 4) (hf : f j = false) : b = false := by
  have hj' : j = 0 ∨ j = 1 ∨ j = 2 ∨ j = 3 := by omega
  rcases hj' with rfl | rfl | rfl | rfl <;> simp [h, hf]

set_option maxRecDepth 100000 in
set_option maxHeartbeats 2000000 in
theorem sizesOk_any (lo : Nat) (sv cv bv : Value) (B : Sb) (w : World) (h : SbAt lo w sv cv bv B) :
    Calls Tryz.prog 58 #[.agg #[.int .i64 B.now, sv, cv, bv]] w fun e w' => e = .returned (.bool (szB B)) ∧ Below w.heap.size w w' := by
  obtain ⟨a0, k0, rfl⟩ := h.svs.form
  obtain ⟨a1, k1, rfl⟩ := h.cps.form
  obtain ⟨a2, k2, rfl⟩ := h.bes.form
  clear h
  go_enter Tryz.func58, Tryz.ntmps58
  by_cases h1 : B.ss.length ≤ 8
  · by_cases h2 : B.cs.length ≤ 200
    · by_cases h3 : B.bs.length ≤ 6
      all_goals
        go_wp2
        go_ret
        exact ⟨ret_bool (by unfold szB; simp [h1, h2, h3] <;> omega), one_al _ _⟩
    · go_wp2
      go_ret
      exact ⟨ret_bool (by unfold szB; simp [h2]), one_al _ _⟩
  · go_wp2
    go_ret
    exact ⟨ret_bool (by unfold szB; simp [h1]), one_al _ _⟩

set_option maxRecDepth 100000 in
set_option maxHeartbeats 8000000 in
theorem validIndex_any (lo : Nat) (sv cv bv : Value) (B : Sb) (w : World) (h : SbAt lo w sv cv bv B) :
    Calls Tryz.prog 26 #[.agg #[.int .i64 B.now, sv, cv, bv]] w fun e w' => Below w.heap.size w w' ∧ ((validB B = false ∧ e = .returned (.tuple #[.agg #[.int .i64 0, .slice none 0 0, .slice none 0 0, .slice none 0 0, .map none], .bool false])) ∨ (validB B = true ∧ ∃ m, IxAt w' m B ∧ e = .returned (.tuple #[.agg #[.int .i64 B.now, sv, cv, bv, .map (some m)], .bool true]))) := by
  have HK := hide h
  obtain ⟨a0, k0, rfl⟩ := h.svs.form
  obtain ⟨a1, k1, rfl⟩ := h.cps.form
  obtain ⟨a2, k2, rfl⟩ := h.bes.form
  clear h
  go_enter Tryz.func26, Tryz.ntmps26
  go_wp2_with fail
  generalize hWa : World.alloc (w.alloc _) _ = Wa
  have HB0 : Hid (Below w.heap.size w Wa) := by rw [← hWa]; exact (one_al w _).alloc (by simp) _
  have HP0 : Hid (Box Wa w.heap.size #[.int .i64 B.now, .slice a0 B.ss.length k0, .slice a1 B.cs.length k1, .slice a2 B.bs.length k2]) := by rw [← hWa]; exact (Box.new _ _ _ _ rfl).on (one_al _ _)
  have HR0 : Hid (Box Wa (w.heap.size + 1) #[.int .i64 0, .slice none 0 0, .slice none 0 0, .slice none 0 0, .map none]) := by rw [← hWa]; exact Box.new _ _ _ _ (by simp)
  clear hWa
  refine (sizesOk_any lo _ _ _ B _ (HK.out.below HB0.out)).mono ?_
  rintro e w1 ⟨rfl, hb1⟩
  have HB1 := hide (bt HB0.out hb1)
  have HP1 := hide (HP0.out.on hb1)
  have HR1 := hide (HR0.out.on hb1)
  clear hb1 HB0 HP0 HR0
  cases hsz : szB B with
  | false =>
    have HF : Hid (validB B = false) := ckBk_no hsz
    have r0 := HR1.out.cell
    have g0 := HR1.out.free
    go_wp2
    refine bodyPost_ret (v := .tuple #[.agg #[.int .i64 0, .slice none 0 0, .slice none 0 0, .slice none 0 0, .map none], .bool false]) (by simp [results, Tryz.results26, go_sem, r0]) rfl ⟨?_, Or.inl ⟨HF.out, rfl⟩⟩
    repeat (refine Below.setCell ?_ (by simp only []; omega) _)
    exact HB1.out
  | true =>
    have HSZ := hide hsz
    have hss : B.ss.length ≤ 8 := by unfold szB at hsz; simp at hsz; omega
    have hbs : B.bs.length ≤ 6 := by unfold szB at hsz; simp at hsz; omega
    clear hsz
    have p := HP1.out.cell
    go_wp2_with fail
    clear p
    refine (indexOf_any lo _ _ _ B _ (HK.out.below HB1.out) hss hbs).mono ?_
    rintro e w2 ⟨m, hmm, rfl, hb2, D, ho, hix⟩
    have hne : m ≠ w.heap.size + 1 := by have := HR1.out.lt; omega
    clear hmm
    have HB2 := hide (bt HB1.out hb2)
    have HR2 := hide (HR1.out.on hb2)
    have HI2 : Hid (IxAt w2 m B) := ⟨_, D, ho, hix⟩
    clear hb2 ho hix HB1 HP1 HR1 hss hbs
    go_wp2_with fail
    generalize hWb : w2.alloc _ = Wb
    have HBb : Hid (Below w.heap.size w Wb) := by rw [← hWb]; exact bt HB2.out (one_al _ _)
    have HRb : Hid (Box Wb (w.heap.size + 1) #[.int .i64 0, .slice none 0 0, .slice none 0 0, .slice none 0 0, .map none]) := by rw [← hWb]; exact HR2.out.on (one_al _ _)
    have HIb : Hid (IxAt Wb m B) := by rw [← hWb]; exact HI2.out.below (one_al _ _)
    have HXb : Hid (Box Wb w2.heap.size #[.int .i64 B.now, .slice a0 B.ss.length k0, .slice a1 B.cs.length k1, .slice a2 B.bs.length k2, .map (some m)]) := by rw [← hWb]; exact Box.new _ _ _ _ rfl
    clear hWb HR2 HI2
    have hw2 : w.heap.size ≤ w2.heap.size := HB2.out.size
    clear HB2
    refine (bkChecks_any _).mono ?_
    rintro e W1 ⟨rfl, hbx, hb3⟩
    have HB3 := hide (bt HBb.out hb3)
    have HR3 := hide (HRb.out.on hb3)
    have HIX := hide (HIb.out.below hb3)
    have HX3 := hide (HXb.out.on hb3)
    have HC3 := hide hbx
    clear hb3 hbx HRb HIb HXb HBb
    obtain ⟨cb, hcb⟩ : ∃ cb, Wb.heap.size = cb := ⟨_, rfl⟩
    rw [hcb] at HC3 ⊢
    clear hcb
    go_wp2
    go_loopw [15] (fun i wr => ∃ j : Nat, i = .int .i64 j ∧ j ≤ 4 ∧ Below w.heap.size w wr ∧ Below W1.heap.size W1 wr ∧ Box wr (w.heap.size + 1) #[.int .i64 0, .slice none 0 0, .slice none 0 0, .slice none 0 0, .map none] ∧ Box wr w2.heap.size #[.int .i64 B.now, .slice a0 B.ss.length k0, .slice a1 B.cs.length k1, .slice a2 B.bs.length k2, .map (some m)] ∧ Box wr cb #[.func (.func 74) #[] #[], .func (.func 75) #[] #[], .func (.func 76) #[] #[], .func (.func 77) #[] #[]] ∧ (∀ l, l < j → ckBk B l = true)) (fun i _ => 4 - (intOf i).toNat)
    case atStart => exact ⟨0, rfl, by omega, HB3.out, Below.refl _ _, HR3.out, HX3.out, HC3.out, fun l h => by omega⟩
    case round =>
      obtain ⟨j, rfl, hj, hb, hwj, hr, hx, hc, hall⟩ := hrel
      have HBj := hide hb
      have HWj := hide hwj
      have HRj := hide hr
      have HXj := hide hx
      have HCj := hide hc
      have HAj := hide hall
      clear hb hwj hr hx hc hall HB3 HR3 HX3 HC3
      by_cases hjl : j < 4
      · have x := HXj.out.cell
        have hj' : j = 0 ∨ j = 1 ∨ j = 2 ∨ j = 3 := by omega
        rcases hj' with rfl | rfl | rfl | rfl
        · have kc := HCj.out.cell 0
          simp at kc
          cases hq : ckBk B 0 with
          | false =>
            have HF : Hid (validB B = false) := and4n (ckBk_all HSZ.out) (by omega) hq
            go_wp2_with (go_at_call 74; refine (nowOk_any lo m _ _ _ B _ (HK.out.below HBj.out)).mono ?_; rintro e w3 ⟨he, hb3⟩; replace he := he.trans (congrArg (fun b => Ending.returned (.bool b)) hq); subst he; have HB3 := hide (bt HBj.out hb3); have HR3 := hide (HRj.out.on hb3); have r0 := HR3.out.cell; have g0 := HR3.out.free; clear hb3)
            refine bodyPost_ret (v := .tuple #[.agg #[.int .i64 0, .slice none 0 0, .slice none 0 0, .slice none 0 0, .map none], .bool false]) (by simp [results, Tryz.results26, go_sem, r0]) rfl ⟨?_, Or.inl ⟨HF.out, rfl⟩⟩
            repeat (refine Below.setCell ?_ (by simp only []; omega) _)
            exact HB3.out
          | true =>
            have HQ := hide hq
            go_wp2_with (go_at_call 74; refine (nowOk_any lo m _ _ _ B _ (HK.out.below HBj.out)).mono ?_; rintro e w3 ⟨he, hb3⟩; replace he := he.trans (congrArg (fun b => Ending.returned (.bool b)) HQ.out); subst he; have HB3 := hide (bt HBj.out hb3); have HW3 := hide (bt HWj.out hb3); have HR3 := hide (HRj.out.on hb3); have HX3 := hide (HXj.out.on hb3); have HC3 := hide (HCj.out.on hb3); clear hb3)
            go_roundw
            case rel => exact ⟨1, by go_num, by omega, HB3.out, HW3.out, HR3.out, HX3.out, HC3.out, fun l hl => by
                          by_cases e : l = 0
                          · rw [e]; exact HQ.out
                          · exact HAj.out l (by omega)⟩
            case measure => simp [intOf]
        · have kc := HCj.out.cell 1
          simp at kc
          cases hq : ckBk B 1 with
          | false =>
            have HF : Hid (validB B = false) := and4n (ckBk_all HSZ.out) (by omega) hq
            go_wp2_with (go_at_call 75; refine (svsOk_any lo m _ _ _ B _ (HK.out.below HBj.out)).mono ?_; rintro e w3 ⟨he, hb3⟩; replace he := he.trans (congrArg (fun b => Ending.returned (.bool b)) hq); subst he; have HB3 := hide (bt HBj.out hb3); have HR3 := hide (HRj.out.on hb3); have r0 := HR3.out.cell; have g0 := HR3.out.free; clear hb3)
            refine bodyPost_ret (v := .tuple #[.agg #[.int .i64 0, .slice none 0 0, .slice none 0 0, .slice none 0 0, .map none], .bool false]) (by simp [results, Tryz.results26, go_sem, r0]) rfl ⟨?_, Or.inl ⟨HF.out, rfl⟩⟩
            repeat (refine Below.setCell ?_ (by simp only []; omega) _)
            exact HB3.out
          | true =>
            have HQ := hide hq
            go_wp2_with (go_at_call 75; refine (svsOk_any lo m _ _ _ B _ (HK.out.below HBj.out)).mono ?_; rintro e w3 ⟨he, hb3⟩; replace he := he.trans (congrArg (fun b => Ending.returned (.bool b)) HQ.out); subst he; have HB3 := hide (bt HBj.out hb3); have HW3 := hide (bt HWj.out hb3); have HR3 := hide (HRj.out.on hb3); have HX3 := hide (HXj.out.on hb3); have HC3 := hide (HCj.out.on hb3); clear hb3)
            go_roundw
            case rel => exact ⟨2, by go_num, by omega, HB3.out, HW3.out, HR3.out, HX3.out, HC3.out, fun l hl => by
                          by_cases e : l = 1
                          · rw [e]; exact HQ.out
                          · exact HAj.out l (by omega)⟩
            case measure => simp [intOf]
        · have kc := HCj.out.cell 2
          simp at kc
          cases hq : ckBk B 2 with
          | false =>
            have HF : Hid (validB B = false) := and4n (ckBk_all HSZ.out) (by omega) hq
            go_wp2_with (go_at_call 76; refine (besOk_any lo m _ _ _ B _ (HK.out.below HBj.out)).mono ?_; rintro e w3 ⟨he, hb3⟩; replace he := he.trans (congrArg (fun b => Ending.returned (.bool b)) hq); subst he; have HB3 := hide (bt HBj.out hb3); have HR3 := hide (HRj.out.on hb3); have r0 := HR3.out.cell; have g0 := HR3.out.free; clear hb3)
            refine bodyPost_ret (v := .tuple #[.agg #[.int .i64 0, .slice none 0 0, .slice none 0 0, .slice none 0 0, .map none], .bool false]) (by simp [results, Tryz.results26, go_sem, r0]) rfl ⟨?_, Or.inl ⟨HF.out, rfl⟩⟩
            repeat (refine Below.setCell ?_ (by simp only []; omega) _)
            exact HB3.out
          | true =>
            have HQ := hide hq
            go_wp2_with (go_at_call 76; refine (besOk_any lo m _ _ _ B _ (HK.out.below HBj.out)).mono ?_; rintro e w3 ⟨he, hb3⟩; replace he := he.trans (congrArg (fun b => Ending.returned (.bool b)) HQ.out); subst he; have HB3 := hide (bt HBj.out hb3); have HW3 := hide (bt HWj.out hb3); have HR3 := hide (HRj.out.on hb3); have HX3 := hide (HXj.out.on hb3); have HC3 := hide (HCj.out.on hb3); clear hb3)
            go_roundw
            case rel => exact ⟨3, by go_num, by omega, HB3.out, HW3.out, HR3.out, HX3.out, HC3.out, fun l hl => by
                          by_cases e : l = 2
                          · rw [e]; exact HQ.out
                          · exact HAj.out l (by omega)⟩
            case measure => simp [intOf]
        · have kc := HCj.out.cell 3
          simp at kc
          have h1 := HAj.out 1 (by omega)
          have HU : Hid (risR rSv B.ss = true) := (Bool.and_eq_true_iff.1 h1).1
          have HSS : Hid (B.ss.all (svB B.now) = true) := (Bool.and_eq_true_iff.1 h1).2
          clear h1
          cases hq : ckBk B 3 with
          | false =>
            have HF : Hid (validB B = false) := and4n (ckBk_all HSZ.out) (by omega) hq
            go_wp2_with (go_at_call 77; refine (cpsOk_any lo m _ _ _ B _ (HK.out.below HBj.out) (HIX.out.below HWj.out) HU.out HSS.out).mono ?_; rintro e w3 ⟨he, hb3⟩; replace he := he.trans (congrArg (fun b => Ending.returned (.bool b)) hq); subst he; have HB3 := hide (bt HBj.out hb3); have HR3 := hide (HRj.out.on hb3); have r0 := HR3.out.cell; have g0 := HR3.out.free; clear hb3)
            refine bodyPost_ret (v := .tuple #[.agg #[.int .i64 0, .slice none 0 0, .slice none 0 0, .slice none 0 0, .map none], .bool false]) (by simp [results, Tryz.results26, go_sem, r0]) rfl ⟨?_, Or.inl ⟨HF.out, rfl⟩⟩
            repeat (refine Below.setCell ?_ (by simp only []; omega) _)
            exact HB3.out
          | true =>
            have HQ := hide hq
            go_wp2_with (go_at_call 77; refine (cpsOk_any lo m _ _ _ B _ (HK.out.below HBj.out) (HIX.out.below HWj.out) HU.out HSS.out).mono ?_; rintro e w3 ⟨he, hb3⟩; replace he := he.trans (congrArg (fun b => Ending.returned (.bool b)) HQ.out); subst he; have HB3 := hide (bt HBj.out hb3); have HW3 := hide (bt HWj.out hb3); have HR3 := hide (HRj.out.on hb3); have HX3 := hide (HXj.out.on hb3); have HC3 := hide (HCj.out.on hb3); clear hb3)
            go_roundw
            case rel => exact ⟨4, by go_num, by omega, HB3.out, HW3.out, HR3.out, HX3.out, HC3.out, fun l hl => by
                          by_cases e : l = 3
                          · rw [e]; exact HQ.out
                          · exact HAj.out l (by omega)⟩
            case measure => simp [intOf]
      · have hjn : j = 4 := by omega
        subst hjn
        have HT : Hid (validB B = true) := and4 (ckBk_all HSZ.out) HAj.out
        have x := HXj.out.cell
        have r0 := HRj.out.cell
        have g0 := HRj.out.free
        go_wp2
        refine bodyPost_ret (v := .tuple #[.agg #[.int .i64 B.now, .slice a0 B.ss.length k0, .slice a1 B.cs.length k1, .slice a2 B.bs.length k2, .map (some m)], .bool true]) (by simp [results, Tryz.results26, go_sem, r0]) rfl ⟨?_, Or.inr ⟨HT.out, m, ?_, rfl⟩⟩
        · repeat (refine Below.setCell ?_ (by simp only []; omega) _)
          exact HBj.out
        · obtain ⟨n, D, ho, hix⟩ := HIX.out.below HWj.out
          refine ⟨n, D, ?_, hix⟩
          repeat (refine World.ownsMap.setCell ?_ hne _)
          exact ho
end Go.Proofs.YtaogpeebencnoaaGreatDoor
