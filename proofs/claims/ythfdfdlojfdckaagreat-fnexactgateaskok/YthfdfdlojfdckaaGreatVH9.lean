import Derived.Test.YthfdfdlojfdckaaGreatVH8
import Derived.Test.YthfdfdlojfdckaaGreatVTD
import Derived.Test.YthfdfdlojfdckaaGreatVBBL
import Derived.Test.YthfdfdlojfdckaaGreatVH7
import Derived.Test.YthfdfdlojfdckaaGreatVHA
import Derived.Test.YthfdfdlojfdckaaGreatVB1
import Derived.Test.YthfdfdlojfdckaaGreatVDA
import Derived.Test.YthfdfdlojfdckaaGreatVTA
import Derived.Test.YthfdfdlojfdckaaGreatVB2
import Derived.Test.YthfdfdlojfdckaaGreatVA1
import Derived.Test.YthfdfdlojfdckaaGreatVTE
namespace Go.Proofs.YthfdfdlojfdckaaGreat
open Go.RowKit Go.Deep

/-- the worlds in which memory has only been added to -/
abbrev Up (W0 : World) : World → Prop := fun W => Below W0.heap.size W0 W
theorem Up.cell {W0 : World} (X : In (Up W0)) {p : Addr} {v : Value} (h : W0.cell? p = some v) : X.w.cell? p = some v :=
  (Below.cell (show Below W0.heap.size W0 X.w from X.h) (World.block_lt_of_cell? W0 _ h)).trans h
theorem Up.next {W0 : World} (X : In (Up W0)) {W' : World} (h : Below X.w.heap.size X.w W') : ∃ Y : In (Up W0), W' = Y.w :=
  ⟨⟨W', X.h.trans (h.mono X.h.size)⟩, rfl⟩
theorem Up.same {W0 : World} (X : In (Up W0)) {W' : World} (h : W' = X.w) : ∃ Y : In (Up W0), W' = Y.w := ⟨X, h⟩
theorem grants_no1 {B : Bk} {m : Nat} (hm : m < B.gs.length) (h : gnB B.given B.gs[m] = false) : grantsB B = false := by
  unfold grantsB
  rw [all_no hm h, Bool.and_false]
theorem grants_no2 {B : Bk} {m : Nat} (hm : m < B.gs.length) (h : risI cGrs B.gs m = false) : grantsB B = false := by
  unfold grantsB
  rw [show risB cGrs B.gs = false from range_not hm h, Bool.and_false, Bool.false_and]
theorem grants_yes {B : Bk} (hl : B.gs.length ≤ 24) (h1 : ∀ j (h : j < B.gs.length), gnB B.given B.gs[j] = true) (h2 : ∀ j, j < B.gs.length → risI cGrs B.gs j = true) : grantsB B = true := by
  unfold grantsB
  rw [decide_eq_true hl, all_yes h1, show risB cGrs B.gs = true from range_all h2]
  rfl

section
variable (lo : Nat) (ov gv lv pv : Value) (B : Bk) (w : World)

set_option maxRecDepth 100000 in
set_option maxHeartbeats 16000000 in
theorem specGrants_any (h : BookAt lo w ov gv lv pv B) :
    Calls Tryz.prog 64 #[.agg #[.int .i64 B.now, .int .i64 B.tick, .int .i64 B.given, ov, gv, lv, pv]] w fun e w' => e = .returned (.bool (grantsB B)) ∧ Below w.heap.size w w' := by
  have HG := hide h.grs
  obtain ⟨a0, k0, rfl⟩ := h.obs.form
  obtain ⟨a1, k1, rfl⟩ := h.grs.form
  obtain ⟨a2, k2, rfl⟩ := h.les.form
  obtain ⟨a3, k3, rfl⟩ := h.pus.form
  clear h
  by_cases hl : B.gs.length ≤ 24
  case neg =>
    have HE : Hid (grantsB B = false) := by unfold Hid grantsB; rw [decide_eq_false hl]; rfl
    have hgt : decide ((24 : Int) < (B.gs.length : Int)) = true := by simp; omega
    go_enter Tryz.func64, Tryz.ntmps64
    go_wp2
    go_ret
    exact ⟨ret_bool HE.out.symm, one_al _ _⟩
  have hgt : decide ((24 : Int) < (B.gs.length : Int)) = false := by simp; omega
  go_enter Tryz.func64, Tryz.ntmps64
  go_wp2
  generalize hWa : w.alloc _ = Wa
  have HB : Hid (Below w.heap.size w Wa) := by rw [← hWa]; exact one_al w _
  have HX : Hid (Box Wa w.heap.size #[.int .i64 B.now, .int .i64 B.tick, .int .i64 B.given, .slice a0 B.os.length k0, .slice a1 B.gs.length k1, .slice a2 B.ls.length k2, .slice a3 B.ps.length k3]) := by rw [← hWa]; exact Box.new _ _ _ _ rfl
  clear hWa hgt
  go_loopw [3] (fun i wr => ∃ m : Nat, i = .int .i64 m ∧ m ≤ B.gs.length ∧ Below w.heap.size w wr ∧ Box wr w.heap.size #[.int .i64 B.now, .int .i64 B.tick, .int .i64 B.given, .slice a0 B.os.length k0, .slice a1 B.gs.length k1, .slice a2 B.ls.length k2, .slice a3 B.ps.length k3] ∧ (∀ j (h : j < B.gs.length), j < m → gnB B.given B.gs[j] = true) ∧ ∀ j, j < m → risI cGrs B.gs j = true) (fun i _ => B.gs.length - (intOf i).toNat)
  case atStart => exact ⟨0, rfl, Nat.zero_le _, HB.out, HX.out, fun j _ h => by omega, fun j h => by omega⟩
  case round =>
    obtain ⟨m, rfl, hm, hb, hx, hall, hris⟩ := hrel
    have HBr := hide hb
    have HXr := hide hx
    have HA := hide hall
    have HS := hide hris
    have x4 := hx.cell 4
    simp at x4
    clear hb hx hall hris HB HX
    by_cases hlt : m < B.gs.length
    · obtain ⟨b, off, rfl, hbw, -, hc⟩ := HG.out.full' (by omega)
      obtain ⟨hs, vv0, hcell, hv0⟩ := hc m hlt
      obtain ⟨c0, c1, c2, c3, c4, c5, c6⟩ := hcell.below HBr.out hbw
      have HZ := hide hs
      obtain ⟨va, vcap, rfl⟩ := hv0.form
      have HQ : Hid (gnB B.given B.gs[m] = (inB 1 B.given B.gs[m].nu && nameB B.gs[m].tw && emptyOrName B.gs[m].gb && ruleB B.gs[m].ru)) := rfl
      have HEN : Hid (emptyOrName B.gs[m].gb = (B.gs[m].gb.toList.isEmpty || nameB B.gs[m].gb)) := rfl
      have HRZ : Hid (RuSize B.gs[m].ru) := ⟨HZ.out.s2, HZ.out.s3, HZ.out.s4⟩
      go_wp2
      generalize hWq : wr.alloc _ = Wq
      have HBq : Hid (Below wr.heap.size wr Wq) := by rw [← hWq]; exact one_al _ _
      have HYq : Hid (Box Wq wr.heap.size #[.int .i64 B.gs[m].nu, .string B.gs[m].tw, .string B.gs[m].gb, .slice va B.gs[m].vb.length vcap, .string B.gs[m].kd, .string B.gs[m].tm, .string B.gs[m].pf]) := by rw [← hWq]; exact Box.new _ _ _ _ rfl
      clear hWq
      have HXq := hide (HXr.out.on HBq.out)
      have HBw : Hid (Below w.heap.size w Wq) := HBr.out.trans (HBq.out.mono HBr.out.size)
      have HVq := hide (hv0.below HBw.out)
      clear c0 c1 c2 c3 c4 c5 c6 hcell hv0 hs
      generalize hβ : wr.heap.size = β at *
      go_cut [65] (fun c wc => c = .bool (!(gnB B.given B.gs[m] && risI cGrs B.gs m)) ∧ Below Wq.heap.size Wq wc)
      case first =>
        have xn : Nonempty (In (Up Wq)) := ⟨⟨Wq, Below.refl _ _⟩⟩
        have x0 : ∀ X : In (Up Wq), X.w.cell? ⟨w.heap.size, 2, none⟩ = some (.int .i64 B.given) := fun X => Up.cell X (by rw [HXq.out.cell 2]; rfl)
        have xg : ∀ X : In (Up Wq), X.w.cell? ⟨w.heap.size, 4, none⟩ = some (.slice (some ⟨b, off, none⟩) B.gs.length k1) := fun X => Up.cell X (by rw [HXq.out.cell 4]; rfl)
        have y0 : ∀ X : In (Up Wq), X.w.cell? ⟨β, 0, none⟩ = some (.int .i64 B.gs[m].nu) := fun X => Up.cell X (by rw [HYq.out.cell 0]; rfl)
        have y1 : ∀ X : In (Up Wq), X.w.cell? ⟨β, 1, none⟩ = some (.string B.gs[m].tw) := fun X => Up.cell X (by rw [HYq.out.cell 1]; rfl)
        have y2 : ∀ X : In (Up Wq), X.w.cell? ⟨β, 2, none⟩ = some (.string B.gs[m].gb) := fun X => Up.cell X (by rw [HYq.out.cell 2]; rfl)
        have y3 : ∀ X : In (Up Wq), X.w.cell? ⟨β, 3, none⟩ = some (.slice va B.gs[m].vb.length vcap) := fun X => Up.cell X (by rw [HYq.out.cell 3]; rfl)
        have y4 : ∀ X : In (Up Wq), X.w.cell? ⟨β, 4, none⟩ = some (.string B.gs[m].kd) := fun X => Up.cell X (by rw [HYq.out.cell 4]; rfl)
        have y5 : ∀ X : In (Up Wq), X.w.cell? ⟨β, 5, none⟩ = some (.string B.gs[m].tm) := fun X => Up.cell X (by rw [HYq.out.cell 5]; rfl)
        have y6 : ∀ X : In (Up Wq), X.w.cell? ⟨β, 6, none⟩ = some (.string B.gs[m].pf) := fun X => Up.cell X (by rw [HYq.out.cell 6]; rfl)
        have xs := fun (X : In (Up Wq)) => in_self X
        have sw0 := HZ.out.s0
        have sw1 := HZ.out.s1
        by_cases h0 : m = 0
        · have hd0 : decide (0 < m) = false := by simp; omega
          have HRI : Hid (risI cGrs B.gs m = true) := by unfold Hid; rw [h0]; rfl
          clear h0 hc
          refine wp_region_class (Up Wq) (by kernel_rfl) (by kernel_rfl) ((Below.refl _ _).drew) ?_
          cases h1 : inB 1 B.given B.gs[m].nu with
          | false =>
            repeat (go_big_quiet_step (
              first
              | (go_at_call 62; rename_i X; exact (in_any _ _ _ _).mono fun _ _ h => ⟨h.1, X, h.2⟩)
              | (go_at_call 88; rename_i X; exact (nameOk_any _ _ (by with_reducible assumption)).mono fun _ _ h => ⟨h.1, X, h.2⟩)
              | (go_at_call 94; rename_i X; exact (specRule_any lo B.gs[m].ru _ _ (HVq.out.below X.h) HRZ.out).mono fun _ _ h => ⟨h.1, Up.next X h.2⟩)))
            refine wpQuiet_nil ?_
            intro wn hw
            obtain ⟨X, hX⟩ := hw
            have HWN : Below Wq.heap.size Wq wn := by rw [hX]; exact X.h
            clear hX X x0 xg xs xn y0 y1 y2 y3 y4 y5 y6
            go_wp2
            go_meet
            exact ⟨congrArg Value.bool (by rw [HQ.out, h1]; rfl), HWN⟩
          | true =>
            cases h2 : nameB B.gs[m].tw with
            | false =>
              repeat (go_big_quiet_step (
                first
                | (go_at_call 62; rename_i X; exact (in_any _ _ _ _).mono fun _ _ h => ⟨h.1, X, h.2⟩)
                | (go_at_call 88; rename_i X; exact (nameOk_any _ _ (by with_reducible assumption)).mono fun _ _ h => ⟨h.1, X, h.2⟩)
                | (go_at_call 94; rename_i X; exact (specRule_any lo B.gs[m].ru _ _ (HVq.out.below X.h) HRZ.out).mono fun _ _ h => ⟨h.1, Up.next X h.2⟩)))
              refine wpQuiet_nil ?_
              intro wn hw
              obtain ⟨X, hX⟩ := hw
              have HWN : Below Wq.heap.size Wq wn := by rw [hX]; exact X.h
              clear hX X x0 xg xs xn y0 y1 y2 y3 y4 y5 y6
              go_wp2
              go_meet
              exact ⟨congrArg Value.bool (by rw [HQ.out, h1, h2]; rfl), HWN⟩
            | true =>
              cases hg : B.gs[m].gb.toList.isEmpty with
              | false =>
                cases h3 : nameB B.gs[m].gb with
                | false =>
                  have h5 : emptyOrName B.gs[m].gb = false := by rw [HEN.out, hg, h3]; rfl
                  repeat (go_big_quiet_step (
                    first
                    | (go_at_call 62; rename_i X; exact (in_any _ _ _ _).mono fun _ _ h => ⟨h.1, X, h.2⟩)
                    | (go_at_call 88; rename_i X; exact (nameOk_any _ _ (by with_reducible assumption)).mono fun _ _ h => ⟨h.1, X, h.2⟩)
                    | (go_at_call 94; rename_i X; exact (specRule_any lo B.gs[m].ru _ _ (HVq.out.below X.h) HRZ.out).mono fun _ _ h => ⟨h.1, Up.next X h.2⟩)))
                  refine wpQuiet_nil ?_
                  intro wn hw
                  obtain ⟨X, hX⟩ := hw
                  have HWN : Below Wq.heap.size Wq wn := by rw [hX]; exact X.h
                  clear hX X x0 xg xs xn y0 y1 y2 y3 y4 y5 y6
                  go_wp2
                  go_meet
                  exact ⟨congrArg Value.bool (by rw [HQ.out, h1, h2, h5]; rfl), HWN⟩
                | true =>
                  have h5 : emptyOrName B.gs[m].gb = true := by rw [HEN.out, hg, h3]; rfl
                  cases h4 : ruleB B.gs[m].ru with
                  | false =>
                    repeat (go_big_quiet_step (
                      first
                      | (go_at_call 62; rename_i X; exact (in_any _ _ _ _).mono fun _ _ h => ⟨h.1, X, h.2⟩)
                      | (go_at_call 88; rename_i X; exact (nameOk_any _ _ (by with_reducible assumption)).mono fun _ _ h => ⟨h.1, X, h.2⟩)
                      | (go_at_call 94; rename_i X; exact (specRule_any lo B.gs[m].ru _ _ (HVq.out.below X.h) HRZ.out).mono fun _ _ h => ⟨h.1, Up.next X h.2⟩)))
                    refine wpQuiet_nil ?_
                    intro wn hw
                    obtain ⟨X, hX⟩ := hw
                    have HWN : Below Wq.heap.size Wq wn := by rw [hX]; exact X.h
                    clear hX X x0 xg xs xn y0 y1 y2 y3 y4 y5 y6
                    go_wp2
                    go_meet
                    exact ⟨congrArg Value.bool (by rw [HQ.out, h1, h2, h5, h4]; rfl), HWN⟩
                  | true =>
                    repeat (go_big_quiet_step (
                      first
                      | (go_at_call 62; rename_i X; exact (in_any _ _ _ _).mono fun _ _ h => ⟨h.1, X, h.2⟩)
                      | (go_at_call 88; rename_i X; exact (nameOk_any _ _ (by with_reducible assumption)).mono fun _ _ h => ⟨h.1, X, h.2⟩)
                      | (go_at_call 94; rename_i X; exact (specRule_any lo B.gs[m].ru _ _ (HVq.out.below X.h) HRZ.out).mono fun _ _ h => ⟨h.1, Up.next X h.2⟩)))
                    refine wpQuiet_nil ?_
                    intro wn hw
                    obtain ⟨X, hX⟩ := hw
                    have HWN : Below Wq.heap.size Wq wn := by rw [hX]; exact X.h
                    clear hX X x0 xg xs xn y0 y1 y2 y3 y4 y5 y6
                    go_wp2
                    go_meet
                    exact ⟨congrArg Value.bool (by rw [HQ.out, h1, h2, h5, h4, HRI.out]; rfl), HWN⟩
              | true =>
                have h5 : emptyOrName B.gs[m].gb = true := by rw [HEN.out, hg]; rfl
                cases h4 : ruleB B.gs[m].ru with
                | false =>
                  repeat (go_big_quiet_step (
                    first
                    | (go_at_call 62; rename_i X; exact (in_any _ _ _ _).mono fun _ _ h => ⟨h.1, X, h.2⟩)
                    | (go_at_call 88; rename_i X; exact (nameOk_any _ _ (by with_reducible assumption)).mono fun _ _ h => ⟨h.1, X, h.2⟩)
                    | (go_at_call 94; rename_i X; exact (specRule_any lo B.gs[m].ru _ _ (HVq.out.below X.h) HRZ.out).mono fun _ _ h => ⟨h.1, Up.next X h.2⟩)))
                  refine wpQuiet_nil ?_
                  intro wn hw
                  obtain ⟨X, hX⟩ := hw
                  have HWN : Below Wq.heap.size Wq wn := by rw [hX]; exact X.h
                  clear hX X x0 xg xs xn y0 y1 y2 y3 y4 y5 y6
                  go_wp2
                  go_meet
                  exact ⟨congrArg Value.bool (by rw [HQ.out, h1, h2, h5, h4]; rfl), HWN⟩
                | true =>
                  repeat (go_big_quiet_step (
                    first
                    | (go_at_call 62; rename_i X; exact (in_any _ _ _ _).mono fun _ _ h => ⟨h.1, X, h.2⟩)
                    | (go_at_call 88; rename_i X; exact (nameOk_any _ _ (by with_reducible assumption)).mono fun _ _ h => ⟨h.1, X, h.2⟩)
                    | (go_at_call 94; rename_i X; exact (specRule_any lo B.gs[m].ru _ _ (HVq.out.below X.h) HRZ.out).mono fun _ _ h => ⟨h.1, Up.next X h.2⟩)))
                  refine wpQuiet_nil ?_
                  intro wn hw
                  obtain ⟨X, hX⟩ := hw
                  have HWN : Below Wq.heap.size Wq wn := by rw [hX]; exact X.h
                  clear hX X x0 xg xs xn y0 y1 y2 y3 y4 y5 y6
                  go_wp2
                  go_meet
                  exact ⟨congrArg Value.bool (by rw [HQ.out, h1, h2, h5, h4, HRI.out]; rfl), HWN⟩
        · have hd0 : decide (0 < m) = true := by simp; omega
          obtain ⟨k, hkm⟩ : ∃ k, m = k + 1 := ⟨m - 1, by omega⟩
          have hltk : k < B.gs.length := by omega
          obtain ⟨hsk, vvk, hck, hvk⟩ := hc k hltk
          have yk : ∀ X : In (Up Wq), X.w.cell? ⟨b, off + k * 7, none⟩ = some (.int .i64 B.gs[k].nu) := fun X => Up.cell X (hck.below HBw.out hbw).c0
          have HRI0 : Hid (risI cGrs B.gs m = decide (B.gs[k].nu < B.gs[m].nu)) := by
            subst hkm
            unfold Hid
            rw [risI_at hlt]
            unfold cGrs
            exact decide_eq_decide.2 cmpI_neg
          have e2 : IntKind.i64.wrap ((m : Int) - 1) = k := by rw [IntWalk.i64_left]; unfold wrap64; omega
          have e3 : wrap64 ((m : Int) - 1) = k := by unfold wrap64; omega
          have e4 : (m : Int) - 1 = k := by omega
          have HKM := hide hkm
          clear h0 hc hsk hck hvk hkm
          refine wp_region_class (Up Wq) (by kernel_rfl) (by kernel_rfl) ((Below.refl _ _).drew) ?_
          cases h1 : inB 1 B.given B.gs[m].nu with
          | false =>
            repeat (go_big_quiet_step (
              first
              | (go_at_call 62; rename_i X; exact (in_any _ _ _ _).mono fun _ _ h => ⟨h.1, X, h.2⟩)
              | (go_at_call 88; rename_i X; exact (nameOk_any _ _ (by with_reducible assumption)).mono fun _ _ h => ⟨h.1, X, h.2⟩)
              | (go_at_call 94; rename_i X; exact (specRule_any lo B.gs[m].ru _ _ (HVq.out.below X.h) HRZ.out).mono fun _ _ h => ⟨h.1, Up.next X h.2⟩)))
            refine wpQuiet_nil ?_
            intro wn hw
            obtain ⟨X, hX⟩ := hw
            have HWN : Below Wq.heap.size Wq wn := by rw [hX]; exact X.h
            clear hX X x0 xg xs xn y0 y1 y2 y3 y4 y5 y6
            go_wp2
            go_meet
            exact ⟨congrArg Value.bool (by rw [HQ.out, h1]; rfl), HWN⟩
          | true =>
            by_cases hnu : B.gs[k].nu < B.gs[m].nu
            · have HRI : Hid (risI cGrs B.gs m = true) := HRI0.out.trans (decide_eq_true hnu)
              have hd1 : decide (B.gs[m].nu ≤ B.gs[k].nu) = false := by simp; omega
              cases h2 : nameB B.gs[m].tw with
              | false =>
                repeat (go_big_quiet_step (
                  first
                  | (go_at_call 62; rename_i X; exact (in_any _ _ _ _).mono fun _ _ h => ⟨h.1, X, h.2⟩)
                  | (go_at_call 88; rename_i X; exact (nameOk_any _ _ (by with_reducible assumption)).mono fun _ _ h => ⟨h.1, X, h.2⟩)
                  | (go_at_call 94; rename_i X; exact (specRule_any lo B.gs[m].ru _ _ (HVq.out.below X.h) HRZ.out).mono fun _ _ h => ⟨h.1, Up.next X h.2⟩)))
                refine wpQuiet_nil ?_
                intro wn hw
                obtain ⟨X, hX⟩ := hw
                have HWN : Below Wq.heap.size Wq wn := by rw [hX]; exact X.h
                clear hX X x0 xg xs xn y0 y1 y2 y3 y4 y5 y6
                go_wp2
                go_meet
                exact ⟨congrArg Value.bool (by rw [HQ.out, h1, h2]; rfl), HWN⟩
              | true =>
                cases hg : B.gs[m].gb.toList.isEmpty with
                | false =>
                  cases h3 : nameB B.gs[m].gb with
                  | false =>
                    have h5 : emptyOrName B.gs[m].gb = false := by rw [HEN.out, hg, h3]; rfl
                    repeat (go_big_quiet_step (
                      first
                      | (go_at_call 62; rename_i X; exact (in_any _ _ _ _).mono fun _ _ h => ⟨h.1, X, h.2⟩)
                      | (go_at_call 88; rename_i X; exact (nameOk_any _ _ (by with_reducible assumption)).mono fun _ _ h => ⟨h.1, X, h.2⟩)
                      | (go_at_call 94; rename_i X; exact (specRule_any lo B.gs[m].ru _ _ (HVq.out.below X.h) HRZ.out).mono fun _ _ h => ⟨h.1, Up.next X h.2⟩)))
                    refine wpQuiet_nil ?_
                    intro wn hw
                    obtain ⟨X, hX⟩ := hw
                    have HWN : Below Wq.heap.size Wq wn := by rw [hX]; exact X.h
                    clear hX X x0 xg xs xn y0 y1 y2 y3 y4 y5 y6
                    go_wp2
                    go_meet
                    exact ⟨congrArg Value.bool (by rw [HQ.out, h1, h2, h5]; rfl), HWN⟩
                  | true =>
                    have h5 : emptyOrName B.gs[m].gb = true := by rw [HEN.out, hg, h3]; rfl
                    cases h4 : ruleB B.gs[m].ru with
                    | false =>
                      repeat (go_big_quiet_step (
                        first
                        | (go_at_call 62; rename_i X; exact (in_any _ _ _ _).mono fun _ _ h => ⟨h.1, X, h.2⟩)
                        | (go_at_call 88; rename_i X; exact (nameOk_any _ _ (by with_reducible assumption)).mono fun _ _ h => ⟨h.1, X, h.2⟩)
                        | (go_at_call 94; rename_i X; exact (specRule_any lo B.gs[m].ru _ _ (HVq.out.below X.h) HRZ.out).mono fun _ _ h => ⟨h.1, Up.next X h.2⟩)))
                      refine wpQuiet_nil ?_
                      intro wn hw
                      obtain ⟨X, hX⟩ := hw
                      have HWN : Below Wq.heap.size Wq wn := by rw [hX]; exact X.h
                      clear hX X x0 xg xs xn y0 y1 y2 y3 y4 y5 y6
                      go_wp2
                      go_meet
                      exact ⟨congrArg Value.bool (by rw [HQ.out, h1, h2, h5, h4]; rfl), HWN⟩
                    | true =>
                      repeat (go_big_quiet_step (
                        first
                        | (go_at_call 62; rename_i X; exact (in_any _ _ _ _).mono fun _ _ h => ⟨h.1, X, h.2⟩)
                        | (go_at_call 88; rename_i X; exact (nameOk_any _ _ (by with_reducible assumption)).mono fun _ _ h => ⟨h.1, X, h.2⟩)
                        | (go_at_call 94; rename_i X; exact (specRule_any lo B.gs[m].ru _ _ (HVq.out.below X.h) HRZ.out).mono fun _ _ h => ⟨h.1, Up.next X h.2⟩)))
                      refine wpQuiet_nil ?_
                      intro wn hw
                      obtain ⟨X, hX⟩ := hw
                      have HWN : Below Wq.heap.size Wq wn := by rw [hX]; exact X.h
                      clear hX X x0 xg xs xn y0 y1 y2 y3 y4 y5 y6
                      go_wp2
                      go_meet
                      exact ⟨congrArg Value.bool (by rw [HQ.out, h1, h2, h5, h4, HRI.out]; rfl), HWN⟩
                | true =>
                  have h5 : emptyOrName B.gs[m].gb = true := by rw [HEN.out, hg]; rfl
                  cases h4 : ruleB B.gs[m].ru with
                  | false =>
                    repeat (go_big_quiet_step (
                      first
                      | (go_at_call 62; rename_i X; exact (in_any _ _ _ _).mono fun _ _ h => ⟨h.1, X, h.2⟩)
                      | (go_at_call 88; rename_i X; exact (nameOk_any _ _ (by with_reducible assumption)).mono fun _ _ h => ⟨h.1, X, h.2⟩)
                      | (go_at_call 94; rename_i X; exact (specRule_any lo B.gs[m].ru _ _ (HVq.out.below X.h) HRZ.out).mono fun _ _ h => ⟨h.1, Up.next X h.2⟩)))
                    refine wpQuiet_nil ?_
                    intro wn hw
                    obtain ⟨X, hX⟩ := hw
                    have HWN : Below Wq.heap.size Wq wn := by rw [hX]; exact X.h
                    clear hX X x0 xg xs xn y0 y1 y2 y3 y4 y5 y6
                    go_wp2
                    go_meet
                    exact ⟨congrArg Value.bool (by rw [HQ.out, h1, h2, h5, h4]; rfl), HWN⟩
                  | true =>
                    repeat (go_big_quiet_step (
                      first
                      | (go_at_call 62; rename_i X; exact (in_any _ _ _ _).mono fun _ _ h => ⟨h.1, X, h.2⟩)
                      | (go_at_call 88; rename_i X; exact (nameOk_any _ _ (by with_reducible assumption)).mono fun _ _ h => ⟨h.1, X, h.2⟩)
                      | (go_at_call 94; rename_i X; exact (specRule_any lo B.gs[m].ru _ _ (HVq.out.below X.h) HRZ.out).mono fun _ _ h => ⟨h.1, Up.next X h.2⟩)))
                    refine wpQuiet_nil ?_
                    intro wn hw
                    obtain ⟨X, hX⟩ := hw
                    have HWN : Below Wq.heap.size Wq wn := by rw [hX]; exact X.h
                    clear hX X x0 xg xs xn y0 y1 y2 y3 y4 y5 y6
                    go_wp2
                    go_meet
                    exact ⟨congrArg Value.bool (by rw [HQ.out, h1, h2, h5, h4, HRI.out]; rfl), HWN⟩
            · have HRF : Hid (risI cGrs B.gs m = false) := HRI0.out.trans (decide_eq_false hnu)
              have hd1 : decide (B.gs[m].nu ≤ B.gs[k].nu) = true := by simp; omega
              repeat (go_big_quiet_step (
                first
                | (go_at_call 62; rename_i X; exact (in_any _ _ _ _).mono fun _ _ h => ⟨h.1, X, h.2⟩)
                | (go_at_call 88; rename_i X; exact (nameOk_any _ _ (by with_reducible assumption)).mono fun _ _ h => ⟨h.1, X, h.2⟩)
                | (go_at_call 94; rename_i X; exact (specRule_any lo B.gs[m].ru _ _ (HVq.out.below X.h) HRZ.out).mono fun _ _ h => ⟨h.1, Up.next X h.2⟩)))
              refine wpQuiet_nil ?_
              intro wn hw
              obtain ⟨X, hX⟩ := hw
              have HWN : Below Wq.heap.size Wq wn := by rw [hX]; exact X.h
              clear hX X x0 xg xs xn y0 y1 y2 y3 y4 y5 y6
              go_wp2
              go_meet
              exact ⟨congrArg Value.bool (by rw [HRF.out, Bool.and_false]; rfl), HWN⟩
      case rest =>
        obtain ⟨hc65, hwn⟩ := hcut
        have HWN := hide hwn
        have HWB : Hid (Below w.heap.size w wc) := HBw.out.trans (HWN.out.mono HBw.out.size)
        clear hwn hc
        cases hgn : gnB B.given B.gs[m] with
        | false =>
          have HN : Hid (grantsB B = false) := grants_no1 hlt hgn
          rw [hgn] at hc65
          subst hc65
          go_wp2
          go_ret
          exact ⟨ret_bool HN.out.symm, HWB.out⟩
        | true =>
          cases hri : risI cGrs B.gs m with
          | false =>
            have HN : Hid (grantsB B = false) := grants_no2 hlt hri
            rw [hgn, hri] at hc65
            subst hc65
            go_wp2
            go_ret
            exact ⟨ret_bool HN.out.symm, HWB.out⟩
          | true =>
            have HT := hide hgn
            have HR := hide hri
            rw [hgn, hri] at hc65
            subst hc65
            go_wp2
            go_roundw
            case rel => exact ⟨m + 1, by go_num, by omega, HWB.out, HXq.out.on HWN.out, step_all HA.out hlt HT.out, fun j hj => by
                          by_cases e : j = m
                          · subst e; exact HR.out
                          · exact HS.out j (by omega)⟩
            case measure => simp [intOf]; omega
    · have HT : Hid (grantsB B = true) := grants_yes hl (fun j hj => HA.out j hj (by omega)) (fun j hj => HS.out j (by omega))
      go_wp2
      go_ret
      exact ⟨ret_bool HT.out.symm, HBr.out⟩
end
end Go.Proofs.YthfdfdlojfdckaaGreat

