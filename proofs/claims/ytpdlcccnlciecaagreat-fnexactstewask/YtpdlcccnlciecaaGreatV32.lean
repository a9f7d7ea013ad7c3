import Derived.Test.YtpdlcccnlciecaaGreatV30
import Derived.Test.YtpdlcccnlciecaaGreatV31
import Derived.RangeFuncNested
import Derived.RangeFuncBound
import Derived.RangeFuncCalls
import Derived.RangeFuncLeaves
import Derived.Shelf.Abstract
import Derived.Shelf.RegionOpen
import Derived.WalkKit
import Derived.OwnWalkIn
import Derived.TacticsInMore
import Derived.LoopNIn
import Derived.LoopIn
namespace Go.Proofs.YtpdlcccnlciecaaGreat
open Go.RowKit Go.Deep Go.Maps

/-- one box, above a world -/
abbrev HeldI (W0 : World) (b1 : Nat) (cs1 : Array Value) (W : World) : Prop := (∀ i, W.cell? ⟨b1, i, none⟩ = cs1[i]?) ∧ Hid (Below W0.heap.size W0 W ∧ b1 < W0.heap.size)
theorem HeldI.drew {W0 : World} {b1 : Nat} {cs1 : Array Value} (h1 : Box W0 b1 cs1) : HeldI W0 b1 cs1 W0.drew := ⟨h1.cell, (Below.refl _ _).drew, h1.lt⟩
theorem HeldI.on {W0 W W' : World} {b1 : Nat} {cs1 : Array Value} (h : HeldI W0 b1 cs1 W) (hb : Below W.heap.size W W') : HeldI W0 b1 cs1 W' := by
  obtain ⟨h1, h4⟩ := h
  have hz := h4.out.1.size
  have q1 := h4.out.2
  exact ⟨fun i => (hb.cell (p := ⟨b1, i, none⟩) (show b1 < W.heap.size by omega)).trans (h1 i), h4.out.1.trans (hb.mono hz), q1⟩

set_option maxHeartbeats 1000000 in
theorem svChecks_any (w : World) :
    Calls Tryz.prog 87 #[] w fun e w' => e = .returned (.slice (some ⟨w.heap.size, 0, none⟩) 5 5) ∧ Box w' w.heap.size #[.func (.func 115) #[] #[], .func (.func 116) #[] #[], .func (.func 117) #[] #[], .func (.func 118) #[] #[], .func (.func 119) #[] #[]] ∧ Below w.heap.size w w' := by
  go_enter Tryz.func87, Tryz.ntmps87
  go_wp2
  go_ret
  exact ⟨rfl, Box.new _ _ _ _ rfl, one_al _ _⟩

set_option maxHeartbeats 1000000 in
theorem beChecks_any (w : World) :
    Calls Tryz.prog 91 #[] w fun e w' => e = .returned (.slice (some ⟨w.heap.size, 0, none⟩) 1 1) ∧ Box w' w.heap.size #[.func (.func 120) #[] #[]] ∧ Below w.heap.size w w' := by
  go_enter Tryz.func91, Tryz.ntmps91
  go_wp2
  go_ret
  exact ⟨rfl, Box.new _ _ _ _ rfl, one_al _ _⟩

set_option maxHeartbeats 1000000 in
theorem cpChecks_any (w : World) :
    Calls Tryz.prog 95 #[] w fun e w' => e = .returned (.slice (some ⟨w.heap.size, 0, none⟩) 3 3) ∧ Box w' w.heap.size #[.func (.func 123) #[] #[], .func (.func 124) #[] #[], .func (.func 125) #[] #[]] ∧ Below w.heap.size w w' := by
  go_enter Tryz.func95, Tryz.ntmps95
  go_wp2
  go_ret
  exact ⟨rfl, Box.new _ _ _ _ rfl, one_al _ _⟩

set_option maxHeartbeats 1000000 in
theorem bkChecks_any (w : World) :
    Calls Tryz.prog 54 #[] w fun e w' => e = .returned (.slice (some ⟨w.heap.size, 0, none⟩) 4 4) ∧ Box w' w.heap.size #[.func (.func 68) #[] #[], .func (.func 69) #[] #[], .func (.func 70) #[] #[], .func (.func 71) #[] #[]] ∧ Below w.heap.size w w' := by
  go_enter Tryz.func54, Tryz.ntmps54
  go_wp2
  go_ret
  exact ⟨rfl, Box.new _ _ _ _ rfl, one_al _ _⟩

set_option maxRecDepth 100000 in
set_option maxHeartbeats 8000000 in
theorem svsOk_any (lo m : Nat) (sv cv bv : Value) (B : Sb) (w : World) (h : SbAt lo w sv cv bv B) :
    Calls Tryz.prog 69 #[.agg #[.int .i64 B.now, sv, cv, bv, .map (some m)]] w fun e w' => e = .returned (.bool (risR rSv B.ss && B.ss.all (svB B.now))) ∧ Below w.heap.size w w' := by
  have HK := hide h
  obtain ⟨a0, k0, rfl⟩ := h.svs.form
  obtain ⟨a1, k1, rfl⟩ := h.cps.form
  obtain ⟨a2, k2, rfl⟩ := h.bes.form
  clear h
  go_enter Tryz.func69, Tryz.ntmps69
  go_wp2
  generalize hWa : w.alloc _ = Wa
  have HB0 : Hid (Below w.heap.size w Wa) := by rw [← hWa]; exact one_al w _
  have HX0 : Hid (Box Wa w.heap.size #[.int .i64 B.now, .slice a0 B.ss.length k0, .slice a1 B.cs.length k1, .slice a2 B.bs.length k2, .map (some m)]) := by rw [← hWa]; exact Box.new _ _ _ _ rfl
  clear hWa
  have K := hide (HK.out.below HB0.out)
  cases hq : risR rSv B.ss with
  | false =>
    have xn : Nonempty (In (Up Wa)) := ⟨⟨Wa, Below.refl _ _⟩⟩
    have xs := fun (X : In (Up Wa)) => in_self X
    have x1 : ∀ X : In (Up Wa), X.w.cell? ⟨w.heap.size, 1, none⟩ = some (.slice a0 B.ss.length k0) := fun X => Up.cell X (by rw [HX0.out.cell 1]; rfl)
    have x2 : ∀ X : In (Up Wa), X.w.cell? ⟨w.heap.size, 2, none⟩ = some (.slice a1 B.cs.length k1) := fun X => Up.cell X (by rw [HX0.out.cell 2]; rfl)
    have x3 : ∀ X : In (Up Wa), X.w.cell? ⟨w.heap.size, 3, none⟩ = some (.slice a2 B.bs.length k2) := fun X => Up.cell X (by rw [HX0.out.cell 3]; rfl)
    refine wp_region_class (Up Wa) (by kernel_rfl) (by kernel_rfl) ((Below.refl _ _).drew) ?_
    repeat (go_big_quiet_step ((go_at_call 84; rename_i X; exact (ascSv_any lo _ B.ss _ (K.out.below X.h).svs).mono fun _ _ h => ⟨h.1.trans (congrArg (fun b => Ending.returned (.bool b)) hq), Up.next X h.2⟩)))
    refine wpQuiet_nil ?_
    intro wn hw
    obtain ⟨X, hX⟩ := hw
    have HWN : Hid (Below Wa.heap.size Wa wn) := by unfold Hid; rw [hX]; exact X.h
    clear hX X x1 x2 x3 xs xn
    go_wp2
    go_ret
    exact ⟨ret_bool (by rw [hq]; rfl), bt HB0.out HWN.out⟩
  | true =>
    go_region_held3 (HeldI Wa w.heap.size #[.int .i64 B.now, .slice a0 B.ss.length k0, .slice a1 B.cs.length k1, .slice a2 B.bs.length k2, .map (some m)])
      (first
        | (with_reducible exact HeldI.drew HX0.out)
        | (with_reducible exact HeldI.on (by assumption) (by assumption)))
      (first
        | (go_at_call 84
           refine (ascSv_any lo _ B.ss _ (K.out.below ((Below.refl _ _).drew)).svs).mono ?_
           rintro e w1 ⟨he, hb1⟩
           replace he := he.trans (congrArg (fun b => Ending.returned (.bool b)) hq)
           subst he
           have C1 : Hid (Below Wa.heap.size Wa w1) := bt ((Below.refl _ _).drew) hb1)
        | (go_at_call 87
           refine (svChecks_any _).mono ?_
           rintro e w2 ⟨rfl, hbx, hb2⟩
           have C2 : Hid (Below Wa.heap.size Wa w2) := bt C1.out hb2
           have CX := hide hbx
           clear hbx)
        | (go_at_call 86
           refine (eachSv_any lo m _ _ _ _ _ B B.ss _ (K.out.below C2.out) (K.out.below C2.out).svs CX.out).mono ?_
           rintro e w3 ⟨rfl, hb3⟩
           have C3 : Hid (Below Wa.heap.size Wa w3) := bt C2.out hb3))
    go_wp2
    go_ret
    exact ⟨ret_bool (by rw [hq]; rfl), bt HB0.out C3.out⟩

set_option maxRecDepth 100000 in
set_option maxHeartbeats 8000000 in
theorem besOk_any (lo m : Nat) (sv cv bv : Value) (B : Sb) (w : World) (h : SbAt lo w sv cv bv B) :
    Calls Tryz.prog 70 #[.agg #[.int .i64 B.now, sv, cv, bv, .map (some m)]] w fun e w' => e = .returned (.bool (risR rBe B.bs && B.bs.all (beB))) ∧ Below w.heap.size w w' := by
  have HK := hide h
  obtain ⟨a0, k0, rfl⟩ := h.svs.form
  obtain ⟨a1, k1, rfl⟩ := h.cps.form
  obtain ⟨a2, k2, rfl⟩ := h.bes.form
  clear h
  go_enter Tryz.func70, Tryz.ntmps70
  go_wp2
  generalize hWa : w.alloc _ = Wa
  have HB0 : Hid (Below w.heap.size w Wa) := by rw [← hWa]; exact one_al w _
  have HX0 : Hid (Box Wa w.heap.size #[.int .i64 B.now, .slice a0 B.ss.length k0, .slice a1 B.cs.length k1, .slice a2 B.bs.length k2, .map (some m)]) := by rw [← hWa]; exact Box.new _ _ _ _ rfl
  clear hWa
  have K := hide (HK.out.below HB0.out)
  cases hq : risR rBe B.bs with
  | false =>
    have xn : Nonempty (In (Up Wa)) := ⟨⟨Wa, Below.refl _ _⟩⟩
    have xs := fun (X : In (Up Wa)) => in_self X
    have x1 : ∀ X : In (Up Wa), X.w.cell? ⟨w.heap.size, 1, none⟩ = some (.slice a0 B.ss.length k0) := fun X => Up.cell X (by rw [HX0.out.cell 1]; rfl)
    have x2 : ∀ X : In (Up Wa), X.w.cell? ⟨w.heap.size, 2, none⟩ = some (.slice a1 B.cs.length k1) := fun X => Up.cell X (by rw [HX0.out.cell 2]; rfl)
    have x3 : ∀ X : In (Up Wa), X.w.cell? ⟨w.heap.size, 3, none⟩ = some (.slice a2 B.bs.length k2) := fun X => Up.cell X (by rw [HX0.out.cell 3]; rfl)
    refine wp_region_class (Up Wa) (by kernel_rfl) (by kernel_rfl) ((Below.refl _ _).drew) ?_
    repeat (go_big_quiet_step ((go_at_call 88; rename_i X; exact (ascBe_any lo _ B.bs _ (K.out.below X.h).bes).mono fun _ _ h => ⟨h.1.trans (congrArg (fun b => Ending.returned (.bool b)) hq), Up.next X h.2⟩)))
    refine wpQuiet_nil ?_
    intro wn hw
    obtain ⟨X, hX⟩ := hw
    have HWN : Hid (Below Wa.heap.size Wa wn) := by unfold Hid; rw [hX]; exact X.h
    clear hX X x1 x2 x3 xs xn
    go_wp2
    go_ret
    exact ⟨ret_bool (by rw [hq]; rfl), bt HB0.out HWN.out⟩
  | true =>
    go_region_held3 (HeldI Wa w.heap.size #[.int .i64 B.now, .slice a0 B.ss.length k0, .slice a1 B.cs.length k1, .slice a2 B.bs.length k2, .map (some m)])
      (first
        | (with_reducible exact HeldI.drew HX0.out)
        | (with_reducible exact HeldI.on (by assumption) (by assumption)))
      (first
        | (go_at_call 88
           refine (ascBe_any lo _ B.bs _ (K.out.below ((Below.refl _ _).drew)).bes).mono ?_
           rintro e w1 ⟨he, hb1⟩
           replace he := he.trans (congrArg (fun b => Ending.returned (.bool b)) hq)
           subst he
           have C1 : Hid (Below Wa.heap.size Wa w1) := bt ((Below.refl _ _).drew) hb1)
        | (go_at_call 91
           refine (beChecks_any _).mono ?_
           rintro e w2 ⟨rfl, hbx, hb2⟩
           have C2 : Hid (Below Wa.heap.size Wa w2) := bt C1.out hb2
           have CX := hide hbx
           clear hbx)
        | (go_at_call 90
           refine (eachBe_any lo m _ _ _ _ _ B B.bs _ (K.out.below C2.out) (K.out.below C2.out).bes CX.out).mono ?_
           rintro e w3 ⟨rfl, hb3⟩
           have C3 : Hid (Below Wa.heap.size Wa w3) := bt C2.out hb3))
    go_wp2
    go_ret
    exact ⟨ret_bool (by rw [hq]; rfl), bt HB0.out C3.out⟩

set_option maxRecDepth 100000 in
set_option maxHeartbeats 8000000 in
theorem cpsOk_any (lo m : Nat) (sv cv bv : Value) (B : Sb) (w : World) (h : SbAt lo w sv cv bv B) (hx : IxAt w m B) (hu : risR rSv B.ss = true) (hss : B.ss.all (svB B.now) = true) :
    Calls Tryz.prog 71 #[.agg #[.int .i64 B.now, sv, cv, bv, .map (some m)]] w fun e w' => e = .returned (.bool (risR aheadB B.cs && B.cs.all (cpB B))) ∧ Below w.heap.size w w' := by
  have HK := hide h
  have HIX := hide hx
  have HU := hide hu
  have HSS := hide hss
  clear hx hu hss
  obtain ⟨a0, k0, rfl⟩ := h.svs.form
  obtain ⟨a1, k1, rfl⟩ := h.cps.form
  obtain ⟨a2, k2, rfl⟩ := h.bes.form
  clear h
  go_enter Tryz.func71, Tryz.ntmps71
  go_wp2
  generalize hWa : w.alloc _ = Wa
  have HB0 : Hid (Below w.heap.size w Wa) := by rw [← hWa]; exact one_al w _
  have HX0 : Hid (Box Wa w.heap.size #[.int .i64 B.now, .slice a0 B.ss.length k0, .slice a1 B.cs.length k1, .slice a2 B.bs.length k2, .map (some m)]) := by rw [← hWa]; exact Box.new _ _ _ _ rfl
  clear hWa
  have K := hide (HK.out.below HB0.out)
  cases hq : risR aheadB B.cs with
  | false =>
    have xn : Nonempty (In (Up Wa)) := ⟨⟨Wa, Below.refl _ _⟩⟩
    have xs := fun (X : In (Up Wa)) => in_self X
    have x1 : ∀ X : In (Up Wa), X.w.cell? ⟨w.heap.size, 1, none⟩ = some (.slice a0 B.ss.length k0) := fun X => Up.cell X (by rw [HX0.out.cell 1]; rfl)
    have x2 : ∀ X : In (Up Wa), X.w.cell? ⟨w.heap.size, 2, none⟩ = some (.slice a1 B.cs.length k1) := fun X => Up.cell X (by rw [HX0.out.cell 2]; rfl)
    have x3 : ∀ X : In (Up Wa), X.w.cell? ⟨w.heap.size, 3, none⟩ = some (.slice a2 B.bs.length k2) := fun X => Up.cell X (by rw [HX0.out.cell 3]; rfl)
    refine wp_region_class (Up Wa) (by kernel_rfl) (by kernel_rfl) ((Below.refl _ _).drew) ?_
    repeat (go_big_quiet_step ((go_at_call 92; rename_i X; exact (ascCp_any lo _ B.cs _ (K.out.below X.h).cps).mono fun _ _ h => ⟨h.1.trans (congrArg (fun b => Ending.returned (.bool b)) hq), Up.next X h.2⟩)))
    refine wpQuiet_nil ?_
    intro wn hw
    obtain ⟨X, hX⟩ := hw
    have HWN : Hid (Below Wa.heap.size Wa wn) := by unfold Hid; rw [hX]; exact X.h
    clear hX X x1 x2 x3 xs xn
    go_wp2
    go_ret
    exact ⟨ret_bool (by rw [hq]; rfl), bt HB0.out HWN.out⟩
  | true =>
    go_region_held3 (HeldI Wa w.heap.size #[.int .i64 B.now, .slice a0 B.ss.length k0, .slice a1 B.cs.length k1, .slice a2 B.bs.length k2, .map (some m)])
      (first
        | (with_reducible exact HeldI.drew HX0.out)
        | (with_reducible exact HeldI.on (by assumption) (by assumption)))
      (first
        | (go_at_call 92
           refine (ascCp_any lo _ B.cs _ (K.out.below ((Below.refl _ _).drew)).cps).mono ?_
           rintro e w1 ⟨he, hb1⟩
           replace he := he.trans (congrArg (fun b => Ending.returned (.bool b)) hq)
           subst he
           have C1 : Hid (Below Wa.heap.size Wa w1) := bt ((Below.refl _ _).drew) hb1)
        | (go_at_call 95
           refine (cpChecks_any _).mono ?_
           rintro e w2 ⟨rfl, hbx, hb2⟩
           have C2 : Hid (Below Wa.heap.size Wa w2) := bt C1.out hb2
           have CX := hide hbx
           clear hbx)
        | (go_at_call 94
           refine (eachCp_any lo m _ _ _ _ _ B B.cs _ (K.out.below C2.out) (K.out.below C2.out).cps CX.out (HIX.out.below (bt HB0.out C2.out)) HU.out HSS.out).mono ?_
           rintro e w3 ⟨rfl, hb3⟩
           have C3 : Hid (Below Wa.heap.size Wa w3) := bt C2.out hb3))
    go_wp2
    go_ret
    exact ⟨ret_bool (by rw [hq]; rfl), bt HB0.out C3.out⟩

end Go.Proofs.YtpdlcccnlciecaaGreat
namespace Go.Proofs.YtpdlcccnlciecaaGreat
open Go.RowKit Go.Deep Go.Maps

def szB (B : Sb) : Bool := decide (B.ss.length ≤ 8) && (decide (B.cs.length ≤ 200) && decide (B.bs.length ≤ 6))
def ckBk (B : Sb) : Nat → Bool
  | 0 => inB 0 1000000 B.now
  | 1 => risR rSv B.ss && B.ss.all (svB B.now)
  | 2 => risR rBe B.bs && B.bs.all beB
  | _ => risR aheadB B.cs && B.cs.all (cpB B)
theorem ckBk_all {B : Sb} (h : szB B = true) : validB B = (ckBk B 0 && (ckBk B 1 && (ckBk B 2 && ckBk B 3))) := by
  unfold szB at h
  simp only [Bool.and_eq_true] at h
  simp only [validB, ckBk, h.1, h.2.1, h.2.2, Bool.true_and, Bool.and_comm (List.all _ _) (risR _ _)]
theorem ckBk_no {B : Sb} (h : szB B = false) : validB B = false := by
  unfold szB at h
  unfold validB
  cases h1 : decide (B.ss.length ≤ 8) with
  | false => simp
  | true =>
    cases h2 : decide (B.cs.length ≤ 200) with
    | false => simp
    | true =>
      rw [h1, h2] at h
      simp only [Bool.true_and] at h
      simp [h]
theorem and4 {f : Nat → Bool} {b : Bool} (h : b = (f 0 && (f 1 && (f 2 && f 3)))) : (∀ j, j < 4 → f j = true) → b = true := fun hf => by
  rw [h, hf 0 (by omega), hf 1 (by omega), hf 2 (by omega), hf 3 (by omega)]; rfl
theorem and4n {f : Nat → Bool} {b : Bool} (h : b = (f 0 && (f 1 && (f 2 && f 3)))) {j : Nat} (hj : j < 4) (hf : f j = false) : b = false := by
  have hj' : j = 0 ∨ j = 1 ∨ j = 2 ∨ j = 3 := by omega
  rcases hj' with rfl | rfl | rfl | rfl <;> simp [h, hf]

set_option maxRecDepth 100000 in
set_option maxHeartbeats 2000000 in
theorem sizesOk_any (lo : Nat) (sv cv bv : Value) (B : Sb) (w : World) (h : SbAt lo w sv cv bv B) :
    Calls Tryz.prog 52 #[.agg #[.int .i64 B.now, sv, cv, bv]] w fun e w' => e = .returned (.bool (szB B)) ∧ Below w.heap.size w w' := by
  obtain ⟨a0, k0, rfl⟩ := h.svs.form
  obtain ⟨a1, k1, rfl⟩ := h.cps.form
  obtain ⟨a2, k2, rfl⟩ := h.bes.form
  clear h
  go_enter Tryz.func52, Tryz.ntmps52
  by_cases h1 : B.ss.length ≤ 8
  · by_cases h2 : B.cs.length ≤ 200
    · by_cases h3 : B.bs.length ≤ 6
      all_goals
        go_wp2
        go_ret
        exact ⟨ret_bool (by unfold szB; simp [h1, h2, h3] <;> omega), one_al _ _⟩
    · go_wp2
      go_ret
      exact ⟨ret_bool (by unfold szB; simp [h2]), one_al _ _⟩
  · go_wp2
    go_ret
    exact ⟨ret_bool (by unfold szB; simp [h1]), one_al _ _⟩

set_option maxRecDepth 100000 in
set_option maxHeartbeats 8000000 in
theorem validIndex_any (lo : Nat) (sv cv bv : Value) (B : Sb) (w : World) (h : SbAt lo w sv cv bv B) :
    Calls Tryz.prog 21 #[.agg #[.int .i64 B.now, sv, cv, bv]] w fun e w' => Below w.heap.size w w' ∧ ((validB B = false ∧ e = .returned (.tuple #[.agg #[.int .i64 0, .slice none 0 0, .slice none 0 0, .slice none 0 0, .map none], .bool false])) ∨ (validB B = true ∧ ∃ m, IxAt w' m B ∧ e = .returned (.tuple #[.agg #[.int .i64 B.now, sv, cv, bv, .map (some m)], .bool true]))) := by
  have HK := hide h
  obtain ⟨a0, k0, rfl⟩ := h.svs.form
  obtain ⟨a1, k1, rfl⟩ := h.cps.form
  obtain ⟨a2, k2, rfl⟩ := h.bes.form
  clear h
  go_enter Tryz.func21, Tryz.ntmps21
  go_wp2_with fail
  generalize hWa : World.alloc (w.alloc _) _ = Wa
  have HB0 : Hid (Below w.heap.size w Wa) := by rw [← hWa]; exact (one_al w _).alloc (by simp) _
  have HP0 : Hid (Box Wa w.heap.size #[.int .i64 B.now, .slice a0 B.ss.length k0, .slice a1 B.cs.length k1, .slice a2 B.bs.length k2]) := by rw [← hWa]; exact (Box.new _ _ _ _ rfl).on (one_al _ _)
  have HR0 : Hid (Box Wa (w.heap.size + 1) #[.int .i64 0, .slice none 0 0, .slice none 0 0, .slice none 0 0, .map none]) := by rw [← hWa]; exact Box.new _ _ _ _ (by simp)
  clear hWa
  refine (sizesOk_any lo _ _ _ B _ (HK.out.below HB0.out)).mono ?_
  rintro e w1 ⟨rfl, hb1⟩
  have HB1 := hide (bt HB0.out hb1)
  have HP1 := hide (HP0.out.on hb1)
  have HR1 := hide (HR0.out.on hb1)
  clear hb1 HB0 HP0 HR0
  cases hsz : szB B with
  | false =>
    have HF : Hid (validB B = false) := ckBk_no hsz
    have r0 := HR1.out.cell
    have g0 := HR1.out.free
    go_wp2
    refine bodyPost_ret (v := .tuple #[.agg #[.int .i64 0, .slice none 0 0, .slice none 0 0, .slice none 0 0, .map none], .bool false]) (by simp [results, Tryz.results21, go_sem, r0]) rfl ⟨?_, Or.inl ⟨HF.out, rfl⟩⟩
    repeat (refine Below.setCell ?_ (by simp only []; omega) _)
    exact HB1.out
  | true =>
    have HSZ := hide hsz
    have hss : B.ss.length ≤ 8 := by unfold szB at hsz; simp at hsz; omega
    have hbs : B.bs.length ≤ 6 := by unfold szB at hsz; simp at hsz; omega
    clear hsz
    have p := HP1.out.cell
    go_wp2_with fail
    clear p
    refine (indexOf_any lo _ _ _ B _ (HK.out.below HB1.out) hss hbs).mono ?_
    rintro e w2 ⟨m, hmm, rfl, hb2, D, ho, hix⟩
    have hne : m ≠ w.heap.size + 1 := by have := HR1.out.lt; omega
    clear hmm
    have HB2 := hide (bt HB1.out hb2)
    have HR2 := hide (HR1.out.on hb2)
    have HI2 : Hid (IxAt w2 m B) := ⟨_, D, ho, hix⟩
    clear hb2 ho hix HB1 HP1 HR1 hss hbs
    go_wp2_with fail
    generalize hWb : w2.alloc _ = Wb
    have HBb : Hid (Below w.heap.size w Wb) := by rw [← hWb]; exact bt HB2.out (one_al _ _)
    have HRb : Hid (Box Wb (w.heap.size + 1) #[.int .i64 0, .slice none 0 0, .slice none 0 0, .slice none 0 0, .map none]) := by rw [← hWb]; exact HR2.out.on (one_al _ _)
    have HIb : Hid (IxAt Wb m B) := by rw [← hWb]; exact HI2.out.below (one_al _ _)
    have HXb : Hid (Box Wb w2.heap.size #[.int .i64 B.now, .slice a0 B.ss.length k0, .slice a1 B.cs.length k1, .slice a2 B.bs.length k2, .map (some m)]) := by rw [← hWb]; exact Box.new _ _ _ _ rfl
    clear hWb HR2 HI2
    have hw2 : w.heap.size ≤ w2.heap.size := HB2.out.size
    clear HB2
    refine (bkChecks_any _).mono ?_
    rintro e W1 ⟨rfl, hbx, hb3⟩
    have HB3 := hide (bt HBb.out hb3)
    have HR3 := hide (HRb.out.on hb3)
    have HIX := hide (HIb.out.below hb3)
    have HX3 := hide (HXb.out.on hb3)
    have HC3 := hide hbx
    clear hb3 hbx HRb HIb HXb HBb
    obtain ⟨cb, hcb⟩ : ∃ cb, Wb.heap.size = cb := ⟨_, rfl⟩
    rw [hcb] at HC3 ⊢
    clear hcb
    go_wp2
    go_loopw [15] (fun i wr => ∃ j : Nat, i = .int .i64 j ∧ j ≤ 4 ∧ Below w.heap.size w wr ∧ Below W1.heap.size W1 wr ∧ Box wr (w.heap.size + 1) #[.int .i64 0, .slice none 0 0, .slice none 0 0, .slice none 0 0, .map none] ∧ Box wr w2.heap.size #[.int .i64 B.now, .slice a0 B.ss.length k0, .slice a1 B.cs.length k1, .slice a2 B.bs.length k2, .map (some m)] ∧ Box wr cb #[.func (.func 68) #[] #[], .func (.func 69) #[] #[], .func (.func 70) #[] #[], .func (.func 71) #[] #[]] ∧ (∀ l, l < j → ckBk B l = true)) (fun i _ => 4 - (intOf i).toNat)
    case atStart => exact ⟨0, rfl, by omega, HB3.out, Below.refl _ _, HR3.out, HX3.out, HC3.out, fun l h => by omega⟩
    case round =>
      obtain ⟨j, rfl, hj, hb, hwj, hr, hx, hc, hall⟩ := hrel
      have HBj := hide hb
      have HWj := hide hwj
      have HRj := hide hr
      have HXj := hide hx
      have HCj := hide hc
      have HAj := hide hall
      clear hb hwj hr hx hc hall HB3 HR3 HX3 HC3
      by_cases hjl : j < 4
      · have x := HXj.out.cell
        have hj' : j = 0 ∨ j = 1 ∨ j = 2 ∨ j = 3 := by omega
        rcases hj' with rfl | rfl | rfl | rfl
        · have kc := HCj.out.cell 0
          simp at kc
          cases hq : ckBk B 0 with
          | false =>
            have HF : Hid (validB B = false) := and4n (ckBk_all HSZ.out) (by omega) hq
            go_wp2_with (go_at_call 68; refine (nowOk_any lo m _ _ _ B _ (HK.out.below HBj.out)).mono ?_; rintro e w3 ⟨he, hb3⟩; replace he := he.trans (congrArg (fun b => Ending.returned (.bool b)) hq); subst he; have HB3 := hide (bt HBj.out hb3); have HR3 := hide (HRj.out.on hb3); have r0 := HR3.out.cell; have g0 := HR3.out.free; clear hb3)
            refine bodyPost_ret (v := .tuple #[.agg #[.int .i64 0, .slice none 0 0, .slice none 0 0, .slice none 0 0, .map none], .bool false]) (by simp [results, Tryz.results21, go_sem, r0]) rfl ⟨?_, Or.inl ⟨HF.out, rfl⟩⟩
            repeat (refine Below.setCell ?_ (by simp only []; omega) _)
            exact HB3.out
          | true =>
            have HQ := hide hq
            go_wp2_with (go_at_call 68; refine (nowOk_any lo m _ _ _ B _ (HK.out.below HBj.out)).mono ?_; rintro e w3 ⟨he, hb3⟩; replace he := he.trans (congrArg (fun b => Ending.returned (.bool b)) HQ.out); subst he; have HB3 := hide (bt HBj.out hb3); have HW3 := hide (bt HWj.out hb3); have HR3 := hide (HRj.out.on hb3); have HX3 := hide (HXj.out.on hb3); have HC3 := hide (HCj.out.on hb3); clear hb3)
            go_roundw
            case rel => exact ⟨1, by go_num, by omega, HB3.out, HW3.out, HR3.out, HX3.out, HC3.out, fun l hl => by
                          by_cases e : l = 0
                          · rw [e]; exact HQ.out
                          · exact HAj.out l (by omega)⟩
            case measure => simp [intOf]
        · have kc := HCj.out.cell 1
          simp at kc
          cases hq : ckBk B 1 with
          | false =>
            have HF : Hid (validB B = false) := and4n (ckBk_all HSZ.out) (by omega) hq
            go_wp2_with (go_at_call 69; refine (svsOk_any lo m _ _ _ B _ (HK.out.below HBj.out)).mono ?_; rintro e w3 ⟨he, hb3⟩; replace he := he.trans (congrArg (fun b => Ending.returned (.bool b)) hq); subst he; have HB3 := hide (bt HBj.out hb3); have HR3 := hide (HRj.out.on hb3); have r0 := HR3.out.cell; have g0 := HR3.out.free; clear hb3)
            refine bodyPost_ret (v := .tuple #[.agg #[.int .i64 0, .slice none 0 0, .slice none 0 0, .slice none 0 0, .map none], .bool false]) (by simp [results, Tryz.results21, go_sem, r0]) rfl ⟨?_, Or.inl ⟨HF.out, rfl⟩⟩
            repeat (refine Below.setCell ?_ (by simp only []; omega) _)
            exact HB3.out
          | true =>
            have HQ := hide hq
            go_wp2_with (go_at_call 69; refine (svsOk_any lo m _ _ _ B _ (HK.out.below HBj.out)).mono ?_; rintro e w3 ⟨he, hb3⟩; replace he := he.trans (congrArg (fun b => Ending.returned (.bool b)) HQ.out); subst he; have HB3 := hide (bt HBj.out hb3); have HW3 := hide (bt HWj.out hb3); have HR3 := hide (HRj.out.on hb3); have HX3 := hide (HXj.out.on hb3); have HC3 := hide (HCj.out.on hb3); clear hb3)
            go_roundw
            case rel => exact ⟨2, by go_num, by omega, HB3.out, HW3.out, HR3.out, HX3.out, HC3.out, fun l hl => by
                          by_cases e : l = 1
                          · rw [e]; exact HQ.out
                          · exact HAj.out l (by omega)⟩
            case measure => simp [intOf]
        · have kc := HCj.out.cell 2
          simp at kc
          cases hq : ckBk B 2 with
          | false =>
            have HF : Hid (validB B = false) := and4n (ckBk_all HSZ.out) (by omega) hq
            go_wp2_with (go_at_call 70; refine (besOk_any lo m _ _ _ B _ (HK.out.below HBj.out)).mono ?_; rintro e w3 ⟨he, hb3⟩; replace he := he.trans (congrArg (fun b => Ending.returned (.bool b)) hq); subst he; have HB3 := hide (bt HBj.out hb3); have HR3 := hide (HRj.out.on hb3); have r0 := HR3.out.cell; have g0 := HR3.out.free; clear hb3)
            refine bodyPost_ret (v := .tuple #[.agg #[.int .i64 0, .slice none 0 0, .slice none 0 0, .slice none 0 0, .map none], .bool false]) (by simp [results, Tryz.results21, go_sem, r0]) rfl ⟨?_, Or.inl ⟨HF.out, rfl⟩⟩
            repeat (refine Below.setCell ?_ (by simp only []; omega) _)
            exact HB3.out
          | true =>
            have HQ := hide hq
            go_wp2_with (go_at_call 70; refine (besOk_any lo m _ _ _ B _ (HK.out.below HBj.out)).mono ?_; rintro e w3 ⟨he, hb3⟩; replace he := he.trans (congrArg (fun b => Ending.returned (.bool b)) HQ.out); subst he; have HB3 := hide (bt HBj.out hb3); have HW3 := hide (bt HWj.out hb3); have HR3 := hide (HRj.out.on hb3); have HX3 := hide (HXj.out.on hb3); have HC3 := hide (HCj.out.on hb3); clear hb3)
            go_roundw
            case rel => exact ⟨3, by go_num, by omega, HB3.out, HW3.out, HR3.out, HX3.out, HC3.out, fun l hl => by
                          by_cases e : l = 2
                          · rw [e]; exact HQ.out
                          · exact HAj.out l (by omega)⟩
            case measure => simp [intOf]
        · have kc := HCj.out.cell 3
          simp at kc
          have h1 := HAj.out 1 (by omega)
          have HU : Hid (risR rSv B.ss = true) := (Bool.and_eq_true_iff.1 h1).1
          have HSS : Hid (B.ss.all (svB B.now) = true) := (Bool.and_eq_true_iff.1 h1).2
          clear h1
          cases hq : ckBk B 3 with
          | false =>
            have HF : Hid (validB B = false) := and4n (ckBk_all HSZ.out) (by omega) hq
            go_wp2_with (go_at_call 71; refine (cpsOk_any lo m _ _ _ B _ (HK.out.below HBj.out) (HIX.out.below HWj.out) HU.out HSS.out).mono ?_; rintro e w3 ⟨he, hb3⟩; replace he := he.trans (congrArg (fun b => Ending.returned (.bool b)) hq); subst he; have HB3 := hide (bt HBj.out hb3); have HR3 := hide (HRj.out.on hb3); have r0 := HR3.out.cell; have g0 := HR3.out.free; clear hb3)
            refine bodyPost_ret (v := .tuple #[.agg #[.int .i64 0, .slice none 0 0, .slice none 0 0, .slice none 0 0, .map none], .bool false]) (by simp [results, Tryz.results21, go_sem, r0]) rfl ⟨?_, Or.inl ⟨HF.out, rfl⟩⟩
            repeat (refine Below.setCell ?_ (by simp only []; omega) _)
            exact HB3.out
          | true =>
            have HQ := hide hq
            go_wp2_with (go_at_call 71; refine (cpsOk_any lo m _ _ _ B _ (HK.out.below HBj.out) (HIX.out.below HWj.out) HU.out HSS.out).mono ?_; rintro e w3 ⟨he, hb3⟩; replace he := he.trans (congrArg (fun b => Ending.returned (.bool b)) HQ.out); subst he; have HB3 := hide (bt HBj.out hb3); have HW3 := hide (bt HWj.out hb3); have HR3 := hide (HRj.out.on hb3); have HX3 := hide (HXj.out.on hb3); have HC3 := hide (HCj.out.on hb3); clear hb3)
            go_roundw
            case rel => exact ⟨4, by go_num, by omega, HB3.out, HW3.out, HR3.out, HX3.out, HC3.out, fun l hl => by
                          by_cases e : l = 3
                          · rw [e]; exact HQ.out
                          · exact HAj.out l (by omega)⟩
            case measure => simp [intOf]
      · have hjn : j = 4 := by omega
        subst hjn
        have HT : Hid (validB B = true) := and4 (ckBk_all HSZ.out) HAj.out
        have x := HXj.out.cell
        have r0 := HRj.out.cell
        have g0 := HRj.out.free
        go_wp2
        refine bodyPost_ret (v := .tuple #[.agg #[.int .i64 B.now, .slice a0 B.ss.length k0, .slice a1 B.cs.length k1, .slice a2 B.bs.length k2, .map (some m)], .bool true]) (by simp [results, Tryz.results21, go_sem, r0]) rfl ⟨?_, Or.inr ⟨HT.out, m, ?_, rfl⟩⟩
        · repeat (refine Below.setCell ?_ (by simp only []; omega) _)
          exact HBj.out
        · obtain ⟨n, D, ho, hix⟩ := HIX.out.below HWj.out
          refine ⟨n, D, ?_, hix⟩
          repeat (refine World.ownsMap.setCell ?_ hne _)
          exact ho
end Go.Proofs.YtpdlcccnlciecaaGreat
namespace Go.Proofs.YtpdlcccnlciecaaGreat
open Go.RowKit Go.Deep

structure Spot {X : Type} (c : X → X → Int) (L : List X) (t : X) (p : Nat) : Prop where
  le : p ≤ L.length
  less : ∀ i (h : i < L.length), i < p → c L[i] t < 0
  more : ∀ i (h : i < L.length), p ≤ i → 0 ≤ c L[i] t
def isAt {X : Type} (c : X → X → Int) (L : List X) (t : X) (p : Nat) : Bool := match L[p]? with
  | some x => decide (c x t = 0)
  | none => false
def Rises {X : Type} (c : X → X → Int) (L : List X) (t : X) : Prop := ∀ i j (hi : i < L.length) (hj : j < L.length), i < j → c L[j] t < 0 → c L[i] t < 0
theorem half_lt {i j : Nat} (h : i < j) : i ≤ (i + j) / 2 ∧ (i + j) / 2 < j := by omega
theorem ahead_trans (a b c : Cp) (h1 : aheadB a b = true) (h2 : aheadB b c = true) : aheadB a c = true := by
  unfold aheadB at *
  simp only [Bool.or_eq_true, Bool.and_eq_true, decide_eq_true_iff] at *
  rcases h1 with h1 | ⟨h1, k1⟩
  · rcases h2 with h2 | ⟨h2, k2⟩
    · exact Or.inl (less_trans h1 h2)
    · rw [← bytes_eq.1 h2]
      exact Or.inl h1
  · rw [bytes_eq.1 h1]
    rcases h2 with h2 | ⟨h2, k2⟩
    · exact Or.inl h2
    · exact Or.inr ⟨h2, by omega⟩
theorem ahead_lt {L : List Cp} (h : risR aheadB L = true) {i j : Nat} (hi : i < L.length) (hj : j < L.length) (hij : i < j) : aheadB L[i] L[j] = true := by
  have := ris_lt ahead_trans h (j - i - 1) i (by omega)
  have e : i + (j - i - 1) + 1 = j := by omega
  simp only [e] at this
  exact this
theorem rises_cp {L : List Cp} (h : risR aheadB L = true) (t : Cp) : Rises cCp L t := fun i j hi hj hij hc => by
  have h1 := ahead_lt h hi hj hij
  have h2 : aheadB L[j] t = true := by rw [← cCp_neg]; exact decide_eq_true hc
  have h3 := ahead_trans _ _ _ h1 h2
  rw [← cCp_neg] at h3
  exact of_decide_eq_true h3
/-- what is looked for -/
def tgt (s : ByteArray) : Cp := ⟨s, 0, 0, 0, 0, false, ⟨#[]⟩⟩
theorem mine_no {s : ByteArray} {L : List Cp} {p : Nat} (hs : Spot cCp L (tgt s) p) (hn : ∀ i (h : i < L.length), 1 ≤ L[i].nu) {i : Nat} (hi : i < L.length) (hp : i < p) : mineB s L[i] = false := by
  have h1 : aheadB L[i] (tgt s) = true := by rw [← cCp_neg]; exact decide_eq_true (hs.less i hi hp)
  unfold aheadB tgt at h1
  simp only [Bool.or_eq_true, Bool.and_eq_true, decide_eq_true_iff] at h1
  unfold mineB
  rcases h1 with h1 | ⟨-, k1⟩
  · refine bytes_ne.2 fun e => ?_
    rw [e, less_irrefl] at h1
    cases h1
  · have := hn i hi
    omega
theorem mine_end {s : ByteArray} {L : List Cp} {p : Nat} (h : risR aheadB L = true) (hs : Spot cCp L (tgt s) p) {i j : Nat} (hi : i < L.length) (hp : p ≤ i) (hm : mineB s L[i] = false) (hj : j < L.length) (hij : i < j) : mineB s L[j] = false := by
  have h1 : aheadB L[i] (tgt s) = false := by rw [← cCp_neg]; exact decide_eq_false (by have := hs.more i hi hp; omega)
  unfold aheadB tgt at h1
  simp only [Bool.or_eq_false_iff] at h1
  have hlt : Op.bytesLess s.toList L[i].se.toList = true := by
    cases hq : Op.bytesLess s.toList L[i].se.toList with
    | true => rfl
    | false =>
      have := less_tri h1.1 hq
      unfold mineB at hm
      rw [this] at hm
      simp at hm
  have h2 := ahead_lt h hi hj hij
  unfold aheadB at h2
  simp only [Bool.or_eq_true, Bool.and_eq_true] at h2
  have h3 : Op.bytesLess s.toList L[j].se.toList = true := by
    rcases h2 with h2 | ⟨h2, -⟩
    · exact less_trans hlt h2
    · rw [← bytes_eq.1 h2]; exact hlt
  unfold mineB
  refine bytes_ne.2 fun e => ?_
  rw [e, less_irrefl] at h3
  cases h3
/-- the copies of a service stand side by side -/
theorem run_all {s : ByteArray} {L : List Cp} {p k : Nat} (hs : Spot cCp L (tgt s) p) (hn : ∀ i (h : i < L.length), 1 ≤ L[i].nu) (hk : p + k ≤ L.length) (hm : ∀ i (h : i < L.length), p ≤ i → i < p + k → mineB s L[i] = true) (he : ∀ i (h : i < L.length), p + k ≤ i → mineB s L[i] = false) : L.filter (mineB s) = (L.drop p).take k := by
  have e1 : L = L.take p ++ ((L.drop p).take k ++ L.drop (p + k)) := by
    rw [← List.drop_drop, List.take_append_drop, List.take_append_drop]
  have f1 : (L.take p).filter (mineB s) = [] := by
    rw [List.filter_eq_nil_iff]
    intro x hx
    obtain ⟨i, hi, rfl⟩ := List.getElem_of_mem hx
    rw [List.length_take] at hi
    rw [List.getElem_take, mine_no hs hn (by omega) (by omega)]
    exact Bool.false_ne_true
  have f2 : ((L.drop p).take k).filter (mineB s) = (L.drop p).take k := by
    rw [List.filter_eq_self]
    intro x hx
    obtain ⟨i, hi, rfl⟩ := List.getElem_of_mem hx
    rw [List.length_take, List.length_drop] at hi
    rw [List.getElem_take, List.getElem_drop]
    exact hm _ (by omega) (by omega) (by omega)
  have f3 : (L.drop (p + k)).filter (mineB s) = [] := by
    rw [List.filter_eq_nil_iff]
    intro x hx
    obtain ⟨i, hi, rfl⟩ := List.getElem_of_mem hx
    rw [List.length_drop] at hi
    rw [List.getElem_drop, he _ (by omega) (by omega)]
    exact Bool.false_ne_true
  have : L.filter (mineB s) = (L.take p ++ ((L.drop p).take k ++ L.drop (p + k))).filter (mineB s) := congrArg _ e1
  rw [this, List.filter_append, List.filter_append, f1, f2, f3]
  simp

set_option maxRecDepth 20000 in
set_option maxHeartbeats 8000000 in
theorem searchCp_any (lo : Nat) (v : Value) (Xl : List Cp) (t : Cp) (w : World) (hv : CpsAt lo w v Xl) (hn : Xl.length ≤ 1048576) (hr : Rises cCp Xl t) :
    Calls Tryz.prog 138 #[v, .agg #[.string t.se, .int .i64 t.nu, .int .i64 t.ve, .int .i64 t.im, .int .i64 t.st, .bool t.en, .string t.be], .func (.func 93) #[] #[]] w
      fun e w' => (∃ p : Nat, Spot cCp Xl t p ∧ e = .returned (.tuple #[.int .i64 p, .bool (isAt cCp Xl t p)])) ∧ Below w.heap.size w w' := by
  have HV := hide hv
  have HR := hide hr
  obtain ⟨a, cap, rfl⟩ := hv.form
  clear hv hr
  go_enter Tryz.func138, Tryz.ntmps138
  go_wp2_with fail
  generalize hWa : w.alloc _ = Wa
  have HB : Hid (Below w.heap.size w Wa) := by rw [← hWa]; exact one_al w _
  have HX : Hid (Box Wa w.heap.size #[.string t.se, .int .i64 t.nu, .int .i64 t.ve, .int .i64 t.im, .int .i64 t.st, .bool t.en, .string t.be]) := by rw [← hWa]; exact Box.new _ _ _ _ rfl
  clear hWa
  go_loopw [9, 10] (fun i j wr => ∃ p q : Nat, i = .int .i64 p ∧ j = .int .i64 q ∧ p ≤ q ∧ q ≤ Xl.length ∧ (∀ k (h : k < Xl.length), k < p → cCp Xl[k] t < 0) ∧ (∀ k (h : k < Xl.length), q ≤ k → 0 ≤ cCp Xl[k] t) ∧ Below w.heap.size w wr ∧ Box wr w.heap.size #[.string t.se, .int .i64 t.nu, .int .i64 t.ve, .int .i64 t.im, .int .i64 t.st, .bool t.en, .string t.be])
    (fun i j _ => (intOf j).toNat - (intOf i).toNat)
  case atStart => exact ⟨0, Xl.length, rfl, rfl, Nat.zero_le _, Nat.le_refl _, fun k _ h => by omega, fun k h h' => by omega, HB.out, HX.out⟩
  case round =>
    obtain ⟨p, q, rfl, rfl, hpq, hq, h1, h2, hb, hx⟩ := hrel
    have HL1 := hide h1
    have HL2 := hide h2
    have HBr := hide hb
    have HXr := hide hx
    clear h1 h2 hb hx HB HX
    by_cases hlt : p < q
    · obtain ⟨hm1, hm2⟩ := half_lt hlt
      have hml : (p + q) / 2 < Xl.length := by omega
      obtain ⟨m, em⟩ : ∃ m : Nat, (p + q) / 2 = m := ⟨_, rfl⟩
      rw [em] at hm1 hm2 hml
      have em' : ((p : Int) + (q : Int)) / 2 = (m : Int) := by omega
      obtain ⟨b, off, rfl, hbw, -, hc⟩ := HV.out.full' (by omega)
      have HC := hide ((hc m hml).2.below HBr.out hbw)
      clear hc em
      go_wp2
      clear em'
      go_cut [31] (fun c wc => c = .bool (decide (cCp Xl[m] t < 0)) ∧ Below wr.heap.size wr wc)
      case first =>
        have xn : Nonempty (In (Up wr)) := ⟨⟨wr, Below.refl _ _⟩⟩
        have xs := fun (X : In (Up wr)) => in_self X
        have s0 : ∀ X : In (Up wr), _ := fun X => Up.cell X HC.out.c0
        have t0 : ∀ X : In (Up wr), X.w.cell? ⟨w.heap.size, 0, none⟩ = some (.string t.se) := fun X => Up.cell X (by rw [HXr.out.cell 0]; rfl)
        have s1 : ∀ X : In (Up wr), _ := fun X => Up.cell X HC.out.c1
        have t1 : ∀ X : In (Up wr), X.w.cell? ⟨w.heap.size, 1, none⟩ = some (.int .i64 t.nu) := fun X => Up.cell X (by rw [HXr.out.cell 1]; rfl)
        have s2 : ∀ X : In (Up wr), _ := fun X => Up.cell X HC.out.c2
        have t2 : ∀ X : In (Up wr), X.w.cell? ⟨w.heap.size, 2, none⟩ = some (.int .i64 t.ve) := fun X => Up.cell X (by rw [HXr.out.cell 2]; rfl)
        have s3 : ∀ X : In (Up wr), _ := fun X => Up.cell X HC.out.c3
        have t3 : ∀ X : In (Up wr), X.w.cell? ⟨w.heap.size, 3, none⟩ = some (.int .i64 t.im) := fun X => Up.cell X (by rw [HXr.out.cell 3]; rfl)
        have s4 : ∀ X : In (Up wr), _ := fun X => Up.cell X HC.out.c4
        have t4 : ∀ X : In (Up wr), X.w.cell? ⟨w.heap.size, 4, none⟩ = some (.int .i64 t.st) := fun X => Up.cell X (by rw [HXr.out.cell 4]; rfl)
        have s5 : ∀ X : In (Up wr), _ := fun X => Up.cell X HC.out.c5
        have t5 : ∀ X : In (Up wr), X.w.cell? ⟨w.heap.size, 5, none⟩ = some (.bool t.en) := fun X => Up.cell X (by rw [HXr.out.cell 5]; rfl)
        have s6 : ∀ X : In (Up wr), _ := fun X => Up.cell X HC.out.c6
        have t6 : ∀ X : In (Up wr), X.w.cell? ⟨w.heap.size, 6, none⟩ = some (.string t.be) := fun X => Up.cell X (by rw [HXr.out.cell 6]; rfl)
        have i0 : (0 : Int) ≤ (m : Int) := by omega
        have i1 : (m : Int) < (Xl.length : Int) := by omega
        refine wp_region_class (Up wr) (by kernel_rfl) (by kernel_rfl) ((Below.refl _ _).drew) ?_
        repeat (go_big_quiet_step ((go_at_call 93; rename_i X; exact (cmpCp_any Xl[m] t _).mono fun _ _ h => ⟨h.1, Up.next X h.2⟩)))
        refine wpQuiet_nil ?_
        intro wn hw
        obtain ⟨X, hX⟩ := hw
        have HWN : Below wr.heap.size wr wn := by rw [hX]; exact X.h
        clear hX X s0 t0 s1 t1 s2 t2 s3 t3 s4 t4 s5 t5 s6 t6 xs xn
        go_wp2
        go_meet
        exact ⟨rfl, HWN⟩
      case rest =>
      obtain ⟨rfl, hbc⟩ := hcut
      have HBc := hide (bt HBr.out hbc)
      have HXc := hide (HXr.out.on hbc)
      clear hbc HC
      cases hq : decide (cCp Xl[m] t < 0) with
      | true =>
        have HT := hide (of_decide_eq_true hq)
        go_wp2
        go_roundw
        case rel => exact ⟨m + 1, q, by go_num, rfl, by omega, by omega, fun k hk hkm => by
                      by_cases e : k = m
                      · subst e; exact HT.out
                      · exact HR.out k m hk hml (by omega) HT.out, HL2.out, HBc.out, HXc.out⟩
        case measure => simp [intOf]; omega
      | false =>
        have HT : Hid (0 ≤ cCp Xl[m] t) := Int.not_lt.1 (of_decide_eq_false hq)
        go_wp2
        go_roundw
        case rel => exact ⟨p, m, rfl, rfl, by omega, by omega, HL1.out, fun k hk hkm => by
                      by_cases e : k = m
                      · subst e; exact HT.out
                      · refine Int.not_lt.1 (fun hn' => ?_)
                        have := HR.out m k hml hk (by omega) hn'
                        have := HT.out
                        omega, HBc.out, HXc.out⟩
        case measure => simp [intOf]; omega
    · have hpq' : p = q := by omega
      subst hpq'
      have HSP : Hid (Spot cCp Xl t p) := ⟨hq, HL1.out, HL2.out⟩
      by_cases hlt2 : p < Xl.length
      · obtain ⟨b, off, rfl, hbw, -, hc⟩ := HV.out.full' (by omega)
        have HC := hide ((hc p hlt2).2.below HBr.out hbw)
        have HI : Hid (isAt cCp Xl t p = decide (cCp Xl[p] t = 0)) := by unfold Hid isAt; rw [List.getElem?_eq_getElem hlt2]
        have hd : decide ((p : Int) < (Xl.length : Int)) = true := by simp; omega
        clear hc
        go_wp2
        have xn : Nonempty (In (Up wr)) := ⟨⟨wr, Below.refl _ _⟩⟩
        have xs := fun (X : In (Up wr)) => in_self X
        have s0 : ∀ X : In (Up wr), _ := fun X => Up.cell X HC.out.c0
        have t0 : ∀ X : In (Up wr), X.w.cell? ⟨w.heap.size, 0, none⟩ = some (.string t.se) := fun X => Up.cell X (by rw [HXr.out.cell 0]; rfl)
        have s1 : ∀ X : In (Up wr), _ := fun X => Up.cell X HC.out.c1
        have t1 : ∀ X : In (Up wr), X.w.cell? ⟨w.heap.size, 1, none⟩ = some (.int .i64 t.nu) := fun X => Up.cell X (by rw [HXr.out.cell 1]; rfl)
        have s2 : ∀ X : In (Up wr), _ := fun X => Up.cell X HC.out.c2
        have t2 : ∀ X : In (Up wr), X.w.cell? ⟨w.heap.size, 2, none⟩ = some (.int .i64 t.ve) := fun X => Up.cell X (by rw [HXr.out.cell 2]; rfl)
        have s3 : ∀ X : In (Up wr), _ := fun X => Up.cell X HC.out.c3
        have t3 : ∀ X : In (Up wr), X.w.cell? ⟨w.heap.size, 3, none⟩ = some (.int .i64 t.im) := fun X => Up.cell X (by rw [HXr.out.cell 3]; rfl)
        have s4 : ∀ X : In (Up wr), _ := fun X => Up.cell X HC.out.c4
        have t4 : ∀ X : In (Up wr), X.w.cell? ⟨w.heap.size, 4, none⟩ = some (.int .i64 t.st) := fun X => Up.cell X (by rw [HXr.out.cell 4]; rfl)
        have s5 : ∀ X : In (Up wr), _ := fun X => Up.cell X HC.out.c5
        have t5 : ∀ X : In (Up wr), X.w.cell? ⟨w.heap.size, 5, none⟩ = some (.bool t.en) := fun X => Up.cell X (by rw [HXr.out.cell 5]; rfl)
        have s6 : ∀ X : In (Up wr), _ := fun X => Up.cell X HC.out.c6
        have t6 : ∀ X : In (Up wr), X.w.cell? ⟨w.heap.size, 6, none⟩ = some (.string t.be) := fun X => Up.cell X (by rw [HXr.out.cell 6]; rfl)
        have i0 : (0 : Int) ≤ (p : Int) := by omega
        have i1 : (p : Int) < (Xl.length : Int) := by omega
        refine wp_region_class (Up wr) (by kernel_rfl) (by kernel_rfl) ((Below.refl _ _).drew) ?_
        repeat (go_big_quiet_step ((go_at_call 93; rename_i X; exact (cmpCp_any Xl[p] t _).mono fun _ _ h => ⟨h.1, Up.next X h.2⟩)))
        refine wpQuiet_nil ?_
        intro wn hw
        obtain ⟨X, hX⟩ := hw
        have HWN : Hid (Below wr.heap.size wr wn) := by unfold Hid; rw [hX]; exact X.h
        clear hX X s0 t0 s1 t1 s2 t2 s3 t3 s4 t4 s5 t5 s6 t6 xs xn
        go_wp2
        go_ret2
        exact ⟨⟨p, HSP.out, by rw [HI.out]; first | rfl | simp⟩, bt HBr.out HWN.out⟩
      · have HI : Hid (isAt cCp Xl t p = false) := by unfold Hid isAt; rw [List.getElem?_eq_none (by omega)]
        have hd : decide ((p : Int) < (Xl.length : Int)) = false := by simp; omega
        go_wp2
        go_quiet (fail)
        go_wp2
        go_ret2
        exact ⟨⟨p, HSP.out, by rw [HI.out]; rfl⟩, below_drewN HBr.out _⟩
end Go.Proofs.YtpdlcccnlciecaaGreat
namespace Go.Proofs.YtpdlcccnlciecaaGreat
open Go.RowKit Go.Deep

/-- which copy is looked for -/
def tgtN (s : ByteArray) (n : Int) : Cp := ⟨s, n, 0, 0, 0, false, ⟨#[]⟩⟩
theorem cmpI_zero {a b : Int} : cmpI a b = 0 ↔ a = b := by unfold cmpI; split <;> (try split) <;> omega
theorem cCp_zero {a b : Cp} : (cCp a b = 0) ↔ a.se = b.se ∧ a.nu = b.nu := by
  unfold cCp
  rw [orI_zero, cmpS_zero, cmpI_zero]
/-- what the place of a copy is -/
def CpIs (L : List Cp) (s : ByteArray) (n : Int) (p : Nat) (t : Bool) : Prop := (t = false ∧ cpF L s n = none) ∨ (t = true ∧ ∃ (h : p < L.length), cpF L s n = some L[p] ∧ cpI L s n = p ∧ L[p].se = s ∧ L[p].nu = n)
theorem cpIs_iff {s : ByteArray} {n : Int} {c : Cp} : cpIs s n c = true ↔ c.se = s ∧ c.nu = n := by
  unfold cpIs
  rw [Bool.and_eq_true]
  exact ⟨fun h => ⟨bytes_eq.1 h.1, beq_iff_eq.1 h.2⟩, fun h => ⟨bytes_eq.2 h.1, beq_iff_eq.2 h.2⟩⟩
theorem cpIs_not {s : ByteArray} {n : Int} {c : Cp} (h : cCp c (tgtN s n) ≠ 0) : cpIs s n c = false := by
  cases hq : cpIs s n c with
  | false => rfl
  | true => exact absurd (cCp_zero.2 (cpIs_iff.1 hq)) h
theorem cp_is {L : List Cp} {s : ByteArray} {n : Int} {p : Nat} (hr : risR aheadB L = true) (h : Spot cCp L (tgtN s n) p) : CpIs L s n p (isAt cCp L (tgtN s n) p) := by
  have hno : ∀ j (hj : j < L.length), j < p → cpIs s n L[j] = false := fun j hj hjp => cpIs_not (by have := h.less j hj hjp; omega)
  unfold isAt
  by_cases hp : p < L.length
  · rw [List.getElem?_eq_getElem hp]
    by_cases h0 : cCp L[p] (tgtN s n) = 0
    · refine Or.inr ⟨decide_eq_true h0, hp, ?_⟩
      have hc := cCp_zero.1 h0
      exact ⟨find_at hp hno (cpIs_iff.2 hc), idx_at hp hno (cpIs_iff.2 hc), hc.1, hc.2⟩
    · refine Or.inl ⟨decide_eq_false h0, find_none fun j hj => ?_⟩
      by_cases hjp : j < p
      · exact hno j hj hjp
      · by_cases e : j = p
        · subst e; exact cpIs_not h0
        · refine cpIs_not fun e0 => ?_
          have h1 := ahead_lt hr hp hj (by omega)
          have h2 := h.more p hp (Nat.le_refl _)
          have h3 : cCp L[p] (tgtN s n) = cCp L[p] L[j] := by
            have := cCp_zero.1 e0
            unfold cCp
            rw [this.1, this.2]
          rw [h3] at h2
          rw [← cCp_neg] at h1
          have := of_decide_eq_true h1
          omega
  · rw [List.getElem?_eq_none (by omega)]
    exact Or.inl ⟨rfl, find_none fun j hj => hno j hj (by omega)⟩

set_option maxRecDepth 100000 in
set_option maxHeartbeats 4000000 in
theorem copyPlace_any (lo : Nat) (now : Int) (sv cv bv : Value) (L : List Cp) (s : ByteArray) (n : Int) (w : World) (hL : CpsAt lo w cv L) (n1 : L.length ≤ 1048576) (hr : risR aheadB L = true) (h0 : ∃ a n k, sv = .slice a n k) (h2 : ∃ a n k, bv = .slice a n k) :
    Calls Tryz.prog 127 #[.agg #[.int .i64 now, sv, cv, bv], .string s, .int .i64 n] w
      fun e w' => (∃ p : Nat, Spot cCp L (tgtN s n) p ∧ e = .returned (.tuple #[.int .i64 p, .bool (isAt cCp L (tgtN s n) p)])) ∧ Below w.heap.size w w' := by
  have HL := hide hL
  have HR := hide hr
  obtain ⟨a1, k1, rfl⟩ := hL.form
  obtain ⟨a0, n0, k0, rfl⟩ := h0
  obtain ⟨a2, n2, k2, rfl⟩ := h2
  clear hL hr
  go_enter Tryz.func127, Tryz.ntmps127
  go_wp2_with fail
  generalize hWa : w.alloc _ = Wa
  have HB0 : Hid (Below w.heap.size w Wa) := by rw [← hWa]; exact one_al w _
  clear hWa
  refine (searchCp_any lo _ L (tgtN s n) _ (HL.out.below HB0.out) n1 (rises_cp HR.out _)).mono ?_
  rintro e w1 ⟨⟨p, hsp, rfl⟩, hb1⟩
  have HSP := hide hsp
  have HB1 := hide (bt HB0.out hb1)
  clear hsp hb1
  go_wp2
  exact bodyPost_ret (v := .tuple #[.int .i64 p, .bool (isAt cCp L (tgtN s n) p)]) (by simp [results, Tryz.results127, go_sem]) rfl ⟨⟨p, HSP.out, rfl⟩, HB1.out⟩
end Go.Proofs.YtpdlcccnlciecaaGreat
namespace Go.Proofs.YtpdlcccnlciecaaGreat
open Go.RowKit Go.Deep Go.Shelf

attribute [local go_sem] Oper.semAt_some

theorem grown_of_below {w w' : World} (h : Below w.heap.size w w') : w.grownBy w' none :=
  ⟨h.os, h.tape, h.output, h.size, fun k hk _ => h.block k hk⟩
theorem abides_below {β : Type} {B : Nat} {J : β → World → Prop} (h : AbidesFrom B J) {s : β} {W W' : World} (hs : J s W) (hb : Below W.heap.size W W') : J s W' :=
  h s W W' none hs (grown_of_below hb) (fun r e => by cases e)

/-- WHAT A LOOP'S BODY KEEPS: all cells, and all that lay below B, but for the blocks of S. -/
structure KeepsBut (S : Nat → Prop) (B : Nat) (W W' : World) : Prop where
  os : W'.os = W.os
  tape : W'.tape = W.tape
  output : W'.output = W.output
  size : W.heap.size ≤ W'.heap.size
  same : ∀ k o, W.heap[k]? = some o → ¬ S k → (o.isCells = true ∨ k < B) → W'.heap[k]? = some o
theorem KeepsBut.refl (S : Nat → Prop) (B : Nat) (W : World) : KeepsBut S B W W := ⟨rfl, rfl, rfl, Nat.le_refl _, fun _ _ h _ _ => h⟩
theorem KeepsBut.trans {S : Nat → Prop} {B : Nat} {W W' W'' : World} (h : KeepsBut S B W W') (k : KeepsBut S B W' W'') : KeepsBut S B W W'' :=
  ⟨k.os.trans h.os, k.tape.trans h.tape, k.output.trans h.output, Nat.le_trans h.size k.size, fun i o hi hs ho => k.same i o (h.same i o hi hs ho) hs ho⟩
theorem KeepsBut.put {S : Nat → Prop} {w : World} (W : World) (l : Nat) (o o' : Obj) (hl : w.heap.size ≤ l) (h : W.heap[l]? = some o) (hc : o.isCells = false) (_ : o.isWalk = false) : KeepsBut S w.heap.size W (W.putObj l o') := by
  have hg := grownBy_putObj' W l o'
  refine ⟨hg.os, hg.tape, hg.output, hg.size, fun k x hk _ hx => ?_⟩
  by_cases e : k = l
  · subst e
    rw [h] at hk
    cases hk
    rcases hx with hx | hx
    · rw [hc] at hx; cases hx
    · omega
  · rw [hg.block k (Array.getElem?_eq_some_iff.1 hk).1 (fun e' => e (Option.some.inj e'))]
    exact hk
theorem KeepsBut.below {S : Nat → Prop} {B m : Nat} {W W' : World} (h : KeepsBut S B W W') (hm : m ≤ W.heap.size) (hS : ∀ k, k < m → ¬ S k) (hB : m ≤ B) : Below m W W' := by
  refine ⟨h.os, h.tape, h.output, h.size, fun k hk => ?_⟩
  have hlt : k < W.heap.size := Nat.lt_of_lt_of_le hk hm
  rw [Array.getElem?_eq_getElem hlt]
  exact h.same k _ (Array.getElem?_eq_getElem hlt) (hS k hk) (Or.inr (Nat.lt_of_lt_of_le hk hB))
theorem KeepsBut.cell {S : Nat → Prop} {B : Nat} {W W' : World} {p : Addr} {v : Value} (h : KeepsBut S B W W') (hc : W.cell? p = some v) (hS : ¬ S p.block) : W'.cell? p = some v := by
  obtain ⟨o, ho, hc'⟩ := cells_of_cell hc
  exact (World.cell?_of_block ((h.same _ o ho hS (Or.inl hc')).trans ho.symm)).trans hc
theorem KeepsBut.set {S : Nat → Prop} {B : Nat} (W : World) (p : Addr) (u : Value) (hS : S p.block) : KeepsBut S B W (W.setCell p u) := by
  refine ⟨rfl, rfl, rfl, by simp [World.setCell], fun k o hk hs _ => ?_⟩
  rw [Below.heap_setCell W p u k (fun e => hs (e ▸ hS))]
  exact hk

theorem KeepsBut.grow {S : Nat → Prop} {B : Nat} {W W' : World} (h : W.grownBy W' none) : KeepsBut S B W W' :=
  ⟨h.os, h.tape, h.output, h.size, fun k o hk _ _ => (h.block k (Array.getElem?_eq_some_iff.1 hk).1 (by simp)).trans hk⟩
abbrev encK (x : Cp) : Array Value := #[.agg #[.string x.se, .int .i64 x.nu, .int .i64 x.ve, .int .i64 x.im, .int .i64 x.st, .bool x.en, .string x.be]]
theorem take_next {L : List Cp} {p k : Nat} (h : p + k < L.length) : (L.drop p).take (k + 1) = (L.drop p).take k ++ [L[p + k]] := by
  rw [List.take_succ_eq_append_getElem (by rw [List.length_drop]; omega), List.getElem_drop]
theorem take_len {L : List Cp} {p k : Nat} (h : p + k ≤ L.length) : ((L.drop p).take k).length = k := by
  rw [List.length_take, List.length_drop]; omega

section
variable (lo : Nat) (now : Int) (sv cv bv : Value) (L : List Cp) (s : ByteArray) (w : World)

set_option maxHeartbeats 1000000 in
theorem copiesOf_in (F : Fence) (n : Nat) (hf : F.fn 96) (hro : F.round = none) (a0 a1 a2 : Option Addr) (n0 n1 n2 k0 k1 k2 : Nat) :
    CallsIn F n Tryz.prog 96 #[.agg #[.int .i64 now, .slice a0 n0 k0, .slice a1 n1 k1, .slice a2 n2 k2], .string s] w
      fun e w' => e = .returned (.func (.func 126) #[] #[.pointer (some ⟨w.heap.size, 0, none⟩), .pointer (some ⟨w.heap.size + 1, 0, none⟩)]) ∧
        w' = (w.alloc (.cells #[.int .i64 now, .slice a0 n0 k0, .slice a1 n1 k1, .slice a2 n2 k2] 34)).alloc (.cells #[.string s] 9) := by
  refine callsIn_of_wp Tryz.func96 rfl hf ?_ hro
  simp only [Tryz.ntmps96, List.size_toArray, List.length_cons, List.length_nil, Nat.reduceAdd, Nat.reduceSub, Array.replicate_succ, Array.replicate_zero, List.push_toArray, List.append_toArray, List.nil_append, List.cons_append]
  gi_wp2
  go_ret
  exact ⟨rfl, rfl⟩

set_option maxRecDepth 100000 in
set_option maxHeartbeats 8000000 in
theorem copies_stops (n : Nat) (hn : 1 ≤ n) (S : Nat → Prop) (w0 : World) (B1 B2 : Nat) (h0 : Below w0.heap.size w0 w) (hL : CpsAt lo w0 cv L) (n1 : L.length ≤ 1048576) (hr : risR aheadB L = true) (hnu : ∀ i (h : i < L.length), 1 ≤ L[i].nu)
    (s0 : ∀ k, k < w0.heap.size → ¬ S k) (s2 : ¬ S B2)
    (hX1 : Box w B1 #[.int .i64 now, sv, cv, bv]) (hX2 : Box w B2 #[.string s]) (g0 : ∃ a n k, sv = .slice a n k) (g2 : ∃ a n k, bv = .slice a n k) :
    SeqStopsK Fence.wide n Tryz.prog 126 #[.pointer (some ⟨B1, 0, none⟩), .pointer (some ⟨B2, 0, none⟩)] encK (KeepsBut S w.heap.size) (fun xs => xs = L.filter (mineB s)) (fun _ => True) L.length w := by
  intro l J Jx W hW hJ hJx hY hJ0
  have HL := hide hL
  obtain ⟨ca, ccap, rfl⟩ := hL.form
  obtain ⟨a0, n0, k0, rfl⟩ := g0
  obtain ⟨a2, n2, k2, rfl⟩ := g2
  have H0 := hide (h0.trans (hW.mono h0.size))
  have HX1 := hide (hX1.below hW hX1.lt)
  have HX2 := hide (hX2.below hW hX2.lt)
  have hw : w.heap.size ≤ W.heap.size := hW.size
  have hw0 : w0.heap.size ≤ w.heap.size := h0.size
  have HJ := hide hJ
  have HY := hide hY
  have HR := hide hr
  have HNU := hide hnu
  have S0 := hide s0
  have S2 := hide s2
  have HJ0 := hide hJ0
  clear hL h0 hW hX1 hX2 hJ hJx hY hJ0 hr hnu s0 s2
  refine callsIn_of_wp Tryz.func126 rfl trivial ?_ rfl
  simp only [Tryz.ntmps126, List.size_toArray, List.length_cons, List.length_nil, Nat.reduceAdd, Nat.reduceSub, Array.replicate_succ, Array.replicate_zero, List.push_toArray, List.append_toArray, List.nil_append, List.cons_append]
  have o0 := HX1.out.cell 0
  have o1 := HX1.out.cell 1
  have o2 := HX1.out.cell 2
  have o3 := HX1.out.cell 3
  have q0 := HX2.out.cell 0
  simp at o0 o1 o2 o3 q0
  gi_wp2_with fail
  clear o0 o1 o3
  refine ⟨trivial, (callsIn_wide.2 (copyPlace_any lo now _ _ _ L s 0 W (HL.out.below H0.out) n1 HR.out ⟨_, _, _, rfl⟩ ⟨_, _, _, rfl⟩)).mono ?_⟩
  rintro e w1 ⟨⟨p, hsp, rfl⟩, hb1⟩
  have HSP := hide hsp
  have hp := hsp.le
  have HJ1 := hide (abides_below HJ.out HJ0.out hb1)
  have H1 := hide (bt H0.out hb1)
  have hw1 : w.heap.size ≤ w1.heap.size := Nat.le_trans hw hb1.size
  have o2 := (HX1.out.on hb1).cell 2
  have q0 := (HX2.out.on hb1).cell 0
  have qlt := (HX2.out.on hb1).lt
  simp at o2 q0
  clear hsp hb1 HX1 HX2 H0 HJ0
  by_cases hpl : p < L.length
  · have hcp : ¬ ccap = p := by
      rcases HL.out with ⟨_, _, _, h⟩ | ⟨_, _, cap, h, _, _, _, _, hc, _⟩
      · rw [h] at hpl; simp at hpl
      · injection h with _ _ h
        omega
    obtain ⟨b, off, rfl, hbw, -, hc⟩ := HL.out.full' (by omega)
    have HC := hide hc
    clear hc
    gi_wp2
    clear o2 hcp
    gi_loopw [19] (fun i wr => ∃ k : Nat, i = .int .i64 k ∧ p + k ≤ L.length ∧ J ((L.drop p).take k) wr ∧ Below w0.heap.size w0 wr ∧ wr.cell? ⟨B2, 0, none⟩ = some (.string s) ∧ B2 < wr.heap.size ∧ w.heap.size ≤ wr.heap.size ∧ (∀ i (h : i < L.length), p ≤ i → i < p + k → mineB s L[i] = true))
      (fun i _ => L.length - p - (intOf i).toNat)
    case atStart => exact ⟨0, rfl, by omega, HJ1.out, H1.out, q0, qlt, hw1, fun i _ h1 h2 => by omega⟩
    case round =>
      clear q0 qlt hw1
      obtain ⟨k, rfl, hk, hJk, hBk, q0, qlt, qw, hmi⟩ := hrel
      have HJK := hide hJk
      have HBK := hide hBk
      have HMI := hide hmi
      clear hJk hBk hmi HJ1 H1
      by_cases hlt : k < L.length - p
      · have hpk : p + k < L.length := by omega
        have hcc := (HC.out (p + k) hpk).2.below HBK.out hbw
        have ea : off + (p + k) * 7 = off + p * 7 + k * 7 := by omega
        rw [ea] at hcc
        obtain ⟨c0, c1, c2, c3, c4, c5, c6⟩ := hcc
        clear ea
        have HTN := hide (take_next hpk)
        obtain ⟨Wb, hWb, q0', HA, HAB, hzb⟩ : ∃ Wb, Wb = wr.alloc (.cells #[.string L[p + k].se, .int .i64 L[p + k].nu, .int .i64 L[p + k].ve, .int .i64 L[p + k].im, .int .i64 L[p + k].st, .bool L[p + k].en, .string L[p + k].be] 82) ∧ Wb.cell? ⟨B2, 0, none⟩ = some (.string s) ∧
            Hid (J ((L.drop p).take k) Wb) ∧ Hid (Below w0.heap.size w0 Wb) ∧ Wb.heap.size = wr.heap.size + 1 :=
          ⟨_, rfl, (cell_alloc_lt _ _ _ _ qlt).trans q0, abides_below HJ.out HJK.out (one_al _ _), HBK.out.trans ((one_al _ _).mono HBK.out.size), by simp⟩
        have q0b : ∀ o, (wr.alloc o).cell? ⟨B2, 0, none⟩ = some (.string s) := fun o => (cell_alloc_lt _ _ _ _ qlt).trans q0
        cases hm : (L[p + k].se.toList == s.toList) with
        | false =>
          have hm' : (L[p + k].se.toList != s.toList) = true := by simp only [bne, hm]; rfl
          have HE : Hid (L.filter (mineB s) = (L.drop p).take k) := run_all HSP.out HNU.out hk HMI.out (fun i hi hpi => by
            by_cases e : i = p + k
            · subst e; exact hm
            · exact mine_end HR.out HSP.out hpk (by omega) hm hi (by omega))
          gi_wp2
          all_goals (refine ⟨fun _ h => (by cases h), ?_⟩; gi_wp2)
          rw [← hWb]
          refine bodyPost_ret (results_none rfl _ _ _) rfl ?_
          exact ⟨⟨_, rfl⟩, .inl ⟨_, HE.out.symm, HA.out⟩⟩
        | true =>
          have hm' : (L[p + k].se.toList != s.toList) = false := by simp only [bne, hm]; rfl
          have HM := hide hm
          have hpl2 : ((L.drop p).take k).length < L.length := by rw [take_len hk]; omega
          have HAw : Hid (J ((L.drop p).take k) (wr.alloc (.cells #[.string L[p + k].se, .int .i64 L[p + k].nu, .int .i64 L[p + k].ve, .int .i64 L[p + k].im, .int .i64 L[p + k].st, .bool L[p + k].en, .string L[p + k].be] 82))) := by unfold Hid; rw [← hWb]; exact HA.out
          obtain ⟨fn, tmps, assign, body, hy, hR⟩ := HY.out _ L[p + k] _ HAw.out hpl2
          dsimp only [encK] at hy
          have HRn := hide hR
          clear hR hpl2
          gi_wp2
          refine HRn.out.mono ?_
          rw [← hWb]
          rintro e W3 (⟨rfl, hJ3, hk3⟩ | ⟨rfl, hJx3⟩)
          · have HJ3 := hide hJ3
            have r3 := hk3.cell q0' S2.out
            have rB : Hid (Below w0.heap.size w0 W3) := HAB.out.trans (hk3.below HAB.out.size S0.out hw0)
            have rz := hk3.size
            clear hk3 hJ3 hy
            gi_wp2
            go_roundw
            case rel => exact ⟨k + 1, by go_num, by omega, by rw [HTN.out]; exact HJ3.out, rB.out, r3, by omega, by omega, fun i hi h1 h2 => by
                          by_cases e : i = p + k
                          · subst e; exact HM.out
                          · exact HMI.out i hi h1 (by omega)⟩
            case measure => simp [intOf]; omega
          · have HX3 := hide hJx3
            clear hJx3 hy
            gi_wp2
            refine bodyPost_ret (results_none rfl _ _ _) rfl ?_
            exact ⟨⟨_, rfl⟩, .inr ⟨_, trivial, HX3.out⟩⟩
      · have HE : Hid (L.filter (mineB s) = (L.drop p).take k) := run_all HSP.out HNU.out hk HMI.out (fun i hi hpi => by omega)
        have hkl : k = L.length - p := by omega
        subst hkl
        gi_wp2
        go_end0
        exact ⟨⟨_, rfl⟩, .inl ⟨_, HE.out.symm, HJK.out⟩⟩
  · have hpe : L.length - p = 0 := by omega
    have HE : Hid (L.filter (mineB s) = []) := by
      unfold Hid
      have := run_all (k := 0) HSP.out HNU.out (by omega) (fun i _ h1 h2 => by omega) (fun i hi hpi => by omega)
      rw [this]
      rfl
    gi_wp2
    all_goals
      gi_loopw [19] (fun i wr => i = .int .i64 0 ∧ wr = w1) (fun _ _ => 0)
      case atStart => exact ⟨rfl, rfl⟩
      case round =>
        obtain ⟨rfl, rfl⟩ := hrel
        gi_wp2
        go_end0
        exact ⟨⟨_, rfl⟩, .inl ⟨_, HE.out.symm, HJ1.out⟩⟩
end
end Go.Proofs.YtpdlcccnlciecaaGreat
