
import Derived.Test.YthecacabcgaenaaIEs
import Derived.Test.YthecacabcgaenaaIEb
import Derived.Test.YthecacabcgaenaaIEc
namespace Go.Proofs.Ythecacabcgaenaa
open Go.RowKit Go.Deep Go.Maps

/-- one box, above a world -/
abbrev HeldI (W0 : World) (b1 : Nat) (cs1 : Array Value) (W : World) : Prop := (∀ i, W.cell? ⟨b1, i, none⟩ = cs1[i]?) ∧ Hid (Below W0.heap.size W0 W ∧ b1 < W0.heap.size)
theorem HeldI.drew {W0 : World} {b1 : Nat} {cs1 : Array Value} (h1 : Box W0 b1 cs1) : HeldI W0 b1 cs1 W0.drew := ⟨h1.cell, (Below.refl _ _).drew, h1.lt⟩
theorem HeldI.on {W0 W W' : World} {b1 : Nat} {cs1 : Array Value} (h : HeldI W0 b1 cs1 W) (hb : Below W.heap.size W W') : HeldI W0 b1 cs1 W' := by
  obtain ⟨h1, h4⟩ := h
  have hz := h4.out.1.size
  have q1 := h4.out.2
  exact ⟨fun i => (hb.cell (p := ⟨b1, i, none⟩) (show b1 < W.heap.size by omega)).trans (h1 i), h4.out.1.trans (hb.mono hz), q1⟩

set_option maxHeartbeats 1000000 in
theorem svChecks_any (w : World) :
    Calls Try.prog 63 #[] w fun e w' => e = .returned (.slice (some ⟨w.heap.size, 0, none⟩) 5 5) ∧ Box w' w.heap.size #[.func (.func 73) #[] #[], .func (.func 74) #[] #[], .func (.func 75) #[] #[], .func (.func 76) #[] #[], .func (.func 77) #[] #[]] ∧ Below w.heap.size w w' := by
  go_enter Try.func63, Try.ntmps63
  go_wp2
  go_ret
  exact ⟨rfl, Box.new _ _ _ _ rfl, one_al _ _⟩

set_option maxHeartbeats 1000000 in
theorem beChecks_any (w : World) :
    Calls Try.prog 67 #[] w fun e w' => e = .returned (.slice (some ⟨w.heap.size, 0, none⟩) 1 1) ∧ Box w' w.heap.size #[.func (.func 78) #[] #[]] ∧ Below w.heap.size w w' := by
  go_enter Try.func67, Try.ntmps67
  go_wp2
  go_ret
  exact ⟨rfl, Box.new _ _ _ _ rfl, one_al _ _⟩

set_option maxHeartbeats 1000000 in
theorem cpChecks_any (w : World) :
    Calls Try.prog 71 #[] w fun e w' => e = .returned (.slice (some ⟨w.heap.size, 0, none⟩) 3 3) ∧ Box w' w.heap.size #[.func (.func 80) #[] #[], .func (.func 81) #[] #[], .func (.func 82) #[] #[]] ∧ Below w.heap.size w w' := by
  go_enter Try.func71, Try.ntmps71
  go_wp2
  go_ret
  exact ⟨rfl, Box.new _ _ _ _ rfl, one_al _ _⟩

set_option maxHeartbeats 1000000 in
theorem bkChecks_any (w : World) :
    Calls Try.prog 50 #[] w fun e w' => e = .returned (.slice (some ⟨w.heap.size, 0, none⟩) 4 4) ∧ Box w' w.heap.size #[.func (.func 55) #[] #[], .func (.func 56) #[] #[], .func (.func 57) #[] #[], .func (.func 58) #[] #[]] ∧ Below w.heap.size w w' := by
  go_enter Try.func50, Try.ntmps50
  go_wp2
  go_ret
  exact ⟨rfl, Box.new _ _ _ _ rfl, one_al _ _⟩

set_option maxRecDepth 100000 in
set_option maxHeartbeats 8000000 in
theorem svsOk_any (lo m : Nat) (sv cv bv : Value) (B : Sb) (w : World) (h : SbAt lo w sv cv bv B) :
    Calls Try.prog 56 #[.agg #[.int .i64 B.now, sv, cv, bv, .map (some m)]] w fun e w' => e = .returned (.bool (risR rSv B.ss && B.ss.all (svB B.now))) ∧ Below w.heap.size w w' := by
  have HK := hide h
  obtain ⟨a0, k0, rfl⟩ := h.svs.form
  obtain ⟨a1, k1, rfl⟩ := h.cps.form
  obtain ⟨a2, k2, rfl⟩ := h.bes.form
  clear h
  go_enter Try.func56, Try.ntmps56
  go_wp2
  generalize hWa : w.alloc _ = Wa
  have HB0 : Hid (Below w.heap.size w Wa) := by rw [← hWa]; exact one_al w _
  have HX0 : Hid (Box Wa w.heap.size #[.int .i64 B.now, .slice a0 B.ss.length k0, .slice a1 B.cs.length k1, .slice a2 B.bs.length k2, .map (some m)]) := by rw [← hWa]; exact Box.new _ _ _ _ rfl
  clear hWa
  have K := hide (HK.out.below HB0.out)
  cases hq : risR rSv B.ss with
  | false =>
    have xn : Nonempty (In (Up Wa)) := ⟨⟨Wa, Below.refl _ _⟩⟩
    have xs := fun (X : In (Up Wa)) => in_self X
    have x1 : ∀ X : In (Up Wa), X.w.cell? ⟨w.heap.size, 1, none⟩ = some (.slice a0 B.ss.length k0) := fun X => Up.cell X (by rw [HX0.out.cell 1]; rfl)
    have x2 : ∀ X : In (Up Wa), X.w.cell? ⟨w.heap.size, 2, none⟩ = some (.slice a1 B.cs.length k1) := fun X => Up.cell X (by rw [HX0.out.cell 2]; rfl)
    have x3 : ∀ X : In (Up Wa), X.w.cell? ⟨w.heap.size, 3, none⟩ = some (.slice a2 B.bs.length k2) := fun X => Up.cell X (by rw [HX0.out.cell 3]; rfl)
    refine wp_region_class (Up Wa) (by kernel_rfl) (by kernel_rfl) ((Below.refl _ _).drew) ?_
    repeat (go_big_quiet_step ((go_at_call 60; rename_i X; exact (ascSv_any lo _ B.ss _ (K.out.below X.h).svs).mono fun _ _ h => ⟨h.1.trans (congrArg (fun b => Ending.returned (.bool b)) hq), Up.next X h.2⟩)))
    refine wpQuiet_nil ?_
    intro wn hw
    obtain ⟨X, hX⟩ := hw
    have HWN : Hid (Below Wa.heap.size Wa wn) := by unfold Hid; rw [hX]; exact X.h
    clear hX X x1 x2 x3 xs xn
    go_wp2
    go_ret
    exact ⟨ret_bool (by rw [hq]; rfl), bt HB0.out HWN.out⟩
  | true =>
    go_region_held3 (HeldI Wa w.heap.size #[.int .i64 B.now, .slice a0 B.ss.length k0, .slice a1 B.cs.length k1, .slice a2 B.bs.length k2, .map (some m)])
      (first
        | (with_reducible exact HeldI.drew HX0.out)
        | (with_reducible exact HeldI.on (by assumption) (by assumption)))
      (first
        | (go_at_call 60
           refine (ascSv_any lo _ B.ss _ (K.out.below ((Below.refl _ _).drew)).svs).mono ?_
           rintro e w1 ⟨he, hb1⟩
           replace he := he.trans (congrArg (fun b => Ending.returned (.bool b)) hq)
           subst he
           have C1 : Hid (Below Wa.heap.size Wa w1) := bt ((Below.refl _ _).drew) hb1)
        | (go_at_call 63
           refine (svChecks_any _).mono ?_
           rintro e w2 ⟨rfl, hbx, hb2⟩
           have C2 : Hid (Below Wa.heap.size Wa w2) := bt C1.out hb2
           have CX := hide hbx
           clear hbx)
        | (go_at_call 62
           refine (eachSv_any lo m _ _ _ _ _ B B.ss _ (K.out.below C2.out) (K.out.below C2.out).svs CX.out).mono ?_
           rintro e w3 ⟨rfl, hb3⟩
           have C3 : Hid (Below Wa.heap.size Wa w3) := bt C2.out hb3))
    go_wp2
    go_ret
    exact ⟨ret_bool (by rw [hq]; rfl), bt HB0.out C3.out⟩

set_option maxRecDepth 100000 in
set_option maxHeartbeats 8000000 in
theorem besOk_any (lo m : Nat) (sv cv bv : Value) (B : Sb) (w : World) (h : SbAt lo w sv cv bv B) :
    Calls Try.prog 57 #[.agg #[.int .i64 B.now, sv, cv, bv, .map (some m)]] w fun e w' => e = .returned (.bool (risR rBe B.bs && B.bs.all (beB))) ∧ Below w.heap.size w w' := by
  have HK := hide h
  obtain ⟨a0, k0, rfl⟩ := h.svs.form
  obtain ⟨a1, k1, rfl⟩ := h.cps.form
  obtain ⟨a2, k2, rfl⟩ := h.bes.form
  clear h
  go_enter Try.func57, Try.ntmps57
  go_wp2
  generalize hWa : w.alloc _ = Wa
  have HB0 : Hid (Below w.heap.size w Wa) := by rw [← hWa]; exact one_al w _
  have HX0 : Hid (Box Wa w.heap.size #[.int .i64 B.now, .slice a0 B.ss.length k0, .slice a1 B.cs.length k1, .slice a2 B.bs.length k2, .map (some m)]) := by rw [← hWa]; exact Box.new _ _ _ _ rfl
  clear hWa
  have K := hide (HK.out.below HB0.out)
  cases hq : risR rBe B.bs with
  | false =>
    have xn : Nonempty (In (Up Wa)) := ⟨⟨Wa, Below.refl _ _⟩⟩
    have xs := fun (X : In (Up Wa)) => in_self X
    have x1 : ∀ X : In (Up Wa), X.w.cell? ⟨w.heap.size, 1, none⟩ = some (.slice a0 B.ss.length k0) := fun X => Up.cell X (by rw [HX0.out.cell 1]; rfl)
    have x2 : ∀ X : In (Up Wa), X.w.cell? ⟨w.heap.size, 2, none⟩ = some (.slice a1 B.cs.length k1) := fun X => Up.cell X (by rw [HX0.out.cell 2]; rfl)
    have x3 : ∀ X : In (Up Wa), X.w.cell? ⟨w.heap.size, 3, none⟩ = some (.slice a2 B.bs.length k2) := fun X => Up.cell X (by rw [HX0.out.cell 3]; rfl)
    refine wp_region_class (Up Wa) (by kernel_rfl) (by kernel_rfl) ((Below.refl _ _).drew) ?_
    repeat (go_big_quiet_step ((go_at_call 64; rename_i X; exact (ascBe_any lo _ B.bs _ (K.out.below X.h).bes).mono fun _ _ h => ⟨h.1.trans (congrArg (fun b => Ending.returned (.bool b)) hq), Up.next X h.2⟩)))
    refine wpQuiet_nil ?_
    intro wn hw
    obtain ⟨X, hX⟩ := hw
    have HWN : Hid (Below Wa.heap.size Wa wn) := by unfold Hid; rw [hX]; exact X.h
    clear hX X x1 x2 x3 xs xn
    go_wp2
    go_ret
    exact ⟨ret_bool (by rw [hq]; rfl), bt HB0.out HWN.out⟩
  | true =>
    go_region_held3 (HeldI Wa w.heap.size #[.int .i64 B.now, .slice a0 B.ss.length k0, .slice a1 B.cs.length k1, .slice a2 B.bs.length k2, .map (some m)])
      (first
        | (with_reducible exact HeldI.drew HX0.out)
        | (with_reducible exact HeldI.on (by assumption) (by assumption)))
      (first
        | (go_at_call 64
           refine (ascBe_any lo _ B.bs _ (K.out.below ((Below.refl _ _).drew)).bes).mono ?_
           rintro e w1 ⟨he, hb1⟩
           replace he := he.trans (congrArg (fun b => Ending.returned (.bool b)) hq)
           subst he
           have C1 : Hid (Below Wa.heap.size Wa w1) := bt ((Below.refl _ _).drew) hb1)
        | (go_at_call 67
           refine (beChecks_any _).mono ?_
           rintro e w2 ⟨rfl, hbx, hb2⟩
           have C2 : Hid (Below Wa.heap.size Wa w2) := bt C1.out hb2
           have CX := hide hbx
           clear hbx)
        | (go_at_call 66
           refine (eachBe_any lo m _ _ _ _ _ B B.bs _ (K.out.below C2.out) (K.out.below C2.out).bes CX.out).mono ?_
           rintro e w3 ⟨rfl, hb3⟩
           have C3 : Hid (Below Wa.heap.size Wa w3) := bt C2.out hb3))
    go_wp2
    go_ret
    exact ⟨ret_bool (by rw [hq]; rfl), bt HB0.out C3.out⟩

set_option maxRecDepth 100000 in
set_option maxHeartbeats 8000000 in
theorem cpsOk_any (lo m : Nat) (sv cv bv : Value) (B : Sb) (w : World) (h : SbAt lo w sv cv bv B) (hx : IxAt w m B) (hu : risR rSv B.ss = true) (hss : B.ss.all (svB B.now) = true) :
    Calls Try.prog 58 #[.agg #[.int .i64 B.now, sv, cv, bv, .map (some m)]] w fun e w' => e = .returned (.bool (risR aheadB B.cs && B.cs.all (cpB B))) ∧ Below w.heap.size w w' := by
  have HK := hide h
  have HIX := hide hx
  have HU := hide hu
  have HSS := hide hss
  clear hx hu hss
  obtain ⟨a0, k0, rfl⟩ := h.svs.form
  obtain ⟨a1, k1, rfl⟩ := h.cps.form
  obtain ⟨a2, k2, rfl⟩ := h.bes.form
  clear h
  go_enter Try.func58, Try.ntmps58
  go_wp2
  generalize hWa : w.alloc _ = Wa
  have HB0 : Hid (Below w.heap.size w Wa) := by rw [← hWa]; exact one_al w _
  have HX0 : Hid (Box Wa w.heap.size #[.int .i64 B.now, .slice a0 B.ss.length k0, .slice a1 B.cs.length k1, .slice a2 B.bs.length k2, .map (some m)]) := by rw [← hWa]; exact Box.new _ _ _ _ rfl
  clear hWa
  have K := hide (HK.out.below HB0.out)
  cases hq : risR aheadB B.cs with
  | false =>
    have xn : Nonempty (In (Up Wa)) := ⟨⟨Wa, Below.refl _ _⟩⟩
    have xs := fun (X : In (Up Wa)) => in_self X
    have x1 : ∀ X : In (Up Wa), X.w.cell? ⟨w.heap.size, 1, none⟩ = some (.slice a0 B.ss.length k0) := fun X => Up.cell X (by rw [HX0.out.cell 1]; rfl)
    have x2 : ∀ X : In (Up Wa), X.w.cell? ⟨w.heap.size, 2, none⟩ = some (.slice a1 B.cs.length k1) := fun X => Up.cell X (by rw [HX0.out.cell 2]; rfl)
    have x3 : ∀ X : In (Up Wa), X.w.cell? ⟨w.heap.size, 3, none⟩ = some (.slice a2 B.bs.length k2) := fun X => Up.cell X (by rw [HX0.out.cell 3]; rfl)
    refine wp_region_class (Up Wa) (by kernel_rfl) (by kernel_rfl) ((Below.refl _ _).drew) ?_
    repeat (go_big_quiet_step ((go_at_call 68; rename_i X; exact (ascCp_any lo _ B.cs _ (K.out.below X.h).cps).mono fun _ _ h => ⟨h.1.trans (congrArg (fun b => Ending.returned (.bool b)) hq), Up.next X h.2⟩)))
    refine wpQuiet_nil ?_
    intro wn hw
    obtain ⟨X, hX⟩ := hw
    have HWN : Hid (Below Wa.heap.size Wa wn) := by unfold Hid; rw [hX]; exact X.h
    clear hX X x1 x2 x3 xs xn
    go_wp2
    go_ret
    exact ⟨ret_bool (by rw [hq]; rfl), bt HB0.out HWN.out⟩
  | true =>
    go_region_held3 (HeldI Wa w.heap.size #[.int .i64 B.now, .slice a0 B.ss.length k0, .slice a1 B.cs.length k1, .slice a2 B.bs.length k2, .map (some m)])
      (first
        | (with_reducible exact HeldI.drew HX0.out)
        | (with_reducible exact HeldI.on (by assumption) (by assumption)))
      (first
        | (go_at_call 68
           refine (ascCp_any lo _ B.cs _ (K.out.below ((Below.refl _ _).drew)).cps).mono ?_
           rintro e w1 ⟨he, hb1⟩
           replace he := he.trans (congrArg (fun b => Ending.returned (.bool b)) hq)
           subst he
           have C1 : Hid (Below Wa.heap.size Wa w1) := bt ((Below.refl _ _).drew) hb1)
        | (go_at_call 71
           refine (cpChecks_any _).mono ?_
           rintro e w2 ⟨rfl, hbx, hb2⟩
           have C2 : Hid (Below Wa.heap.size Wa w2) := bt C1.out hb2
           have CX := hide hbx
           clear hbx)
        | (go_at_call 70
           refine (eachCp_any lo m _ _ _ _ _ B B.cs _ (K.out.below C2.out) (K.out.below C2.out).cps CX.out (HIX.out.below (bt HB0.out C2.out)) HU.out HSS.out).mono ?_
           rintro e w3 ⟨rfl, hb3⟩
           have C3 : Hid (Below Wa.heap.size Wa w3) := bt C2.out hb3))
    go_wp2
    go_ret
    exact ⟨ret_bool (by rw [hq]; rfl), bt HB0.out C3.out⟩

end Go.Proofs.Ythecacabcgaenaa
