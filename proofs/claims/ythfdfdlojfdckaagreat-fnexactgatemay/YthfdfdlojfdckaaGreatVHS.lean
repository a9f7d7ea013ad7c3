import Derived.Test.YthfdfdlojfdckaaGreatVH9
import Derived.Test.YthfdfdlojfdckaaGreatVBBL
import Derived.Test.YthfdfdlojfdckaaGreatVH7
import Derived.Test.YthfdfdlojfdckaaGreatVHA
import Derived.Test.YthfdfdlojfdckaaGreatVB1
import Derived.Test.YthfdfdlojfdckaaGreatVBLP
import Derived.Test.YthfdfdlojfdckaaGreatVTA
import Derived.Test.YthfdfdlojfdckaaGreatVH8
import Derived.Test.YthfdfdlojfdckaaGreatVA1
import Derived.Test.YthfdfdlojfdckaaGreatVDA
import Derived.Test.YthfdfdlojfdckaaGreatVTD
import Derived.Test.YthfdfdlojfdckaaGreatVLA
import Derived.Test.YthfdfdlojfdckaaGreatVBOG
import Derived.Test.YthfdfdlojfdckaaGreatVTB
import Derived.Test.YthfdfdlojfdckaaGreatVHB
import Derived.Test.YthfdfdlojfdckaaGreatVGG
import Derived.Test.YthfdfdlojfdckaaGreatVM5R
namespace Go.Proofs.YthfdfdlojfdckaaGreat
open Go.RowKit Go.Deep Go.Maps

theorem purses_no1 {B : Bk} {m : Nat} (hm : m < B.ps.length) (h : puB B B.ps[m] = false) : pursesB B = false := by
  unfold pursesB
  rw [all_no hm h, Bool.and_false]
theorem purses_no2 {B : Bk} {m : Nat} (hm : m < B.ps.length) (h : risI cPus B.ps m = false) : pursesB B = false := by
  unfold pursesB
  rw [show risB cPus B.ps = false from range_not hm h, Bool.and_false, Bool.false_and]
theorem purses_yes {B : Bk} (hl : B.ps.length ≤ 24) (h1 : ∀ j (h : j < B.ps.length), puB B B.ps[j] = true) (h2 : ∀ j, j < B.ps.length → risI cPus B.ps j = true) : pursesB B = true := by
  unfold pursesB
  rw [decide_eq_true hl, all_yes h1, show risB cPus B.ps = true from range_all h2]
  rfl
theorem ledgers_no1 {Ts : List Tm} {Ls : List Le} {m : Nat} (hm : m < Ls.length) (h : leB Ts Ls[m] = false) : ledgersB Ts Ls = false := by
  unfold ledgersB
  rw [all_no hm h, Bool.and_false]
theorem ledgers_no2 {Ts : List Tm} {Ls : List Le} {m : Nat} (hm : m < Ls.length) (h : risI cLes Ls m = false) : ledgersB Ts Ls = false := by
  unfold ledgersB
  rw [show risB cLes Ls = false from range_not hm h, Bool.and_false, Bool.false_and]
theorem ledgers_yes {Ts : List Tm} {Ls : List Le} (hl : Ls.length ≤ 10) (h1 : ∀ j (h : j < Ls.length), leB Ts Ls[j] = true) (h2 : ∀ j, j < Ls.length → risI cLes Ls j = true) : ledgersB Ts Ls = true := by
  unfold ledgersB
  rw [decide_eq_true hl, all_yes h1, show risB cLes Ls = true from range_all h2]
  rfl
/-- what spec.l5SumsOk tells -/
def lpsB (Ss : List Sh) (Ts : List Tm) (B : Bk) : Bool := ledgersB Ts B.ls && (pursesB B && sumsB Ss Ts B)
theorem lps_l {Ss : List Sh} {Ts : List Tm} {B : Bk} (h : ledgersB Ts B.ls = false) : lpsB Ss Ts B = false := by unfold lpsB; rw [h]; rfl
theorem lps_p {Ss : List Sh} {Ts : List Tm} {B : Bk} (h : pursesB B = false) : lpsB Ss Ts B = false := by unfold lpsB; rw [h, Bool.false_and, Bool.and_false]
theorem lps_s {Ss : List Sh} {Ts : List Tm} {B : Bk} (h : sumsB Ss Ts B = false) : lpsB Ss Ts B = false := by unfold lpsB; rw [h, Bool.and_false, Bool.and_false]
theorem lps_yes {Ss : List Sh} {Ts : List Tm} {B : Bk} (h : ledgersB Ts B.ls = true) (h1 : pursesB B = true) (h2 : sumsB Ss Ts B = true) : lpsB Ss Ts B = true := by unfold lpsB; rw [h, h1, h2]; rfl
theorem step_ris {X : Type} {c : X → X → Int} {L : List X} {m : Nat} (h : ∀ j, j < m → risI c L j = true) (hm : risI c L m = true) : ∀ j, j < m + 1 → risI c L j = true := fun j hj => by
  by_cases e : j = m
  · subst e; exact hm
  · exact h j (by omega)
theorem leB_no1 {Ts : List Tm} {g : Le} (h : hasT Ts g.tm = false) : leB Ts g = false := by unfold leB; rw [h]; rfl
theorem leB_no2 {Ts : List Tm} {g : Le} (h : nameB g.re = false) : leB Ts g = false := by unfold leB; rw [h, Bool.and_false]; rfl
theorem leB_no3 {Ts : List Tm} {g : Le} (h : ¬ (0 ≤ g.fr ∧ g.fr ≤ g.mo ∧ g.mo ≤ 1000000)) : leB Ts g = false := by
  unfold leB inB
  by_cases h1 : 0 ≤ g.mo ∧ g.mo ≤ 1000000
  · rw [show decide (0 ≤ g.fr ∧ g.fr ≤ g.mo) = false from decide_eq_false (by omega), Bool.and_false]
  · rw [decide_eq_false h1, Bool.and_false, Bool.false_and]
theorem leB_yes {Ts : List Tm} {g : Le} (h1 : hasT Ts g.tm = true) (h2 : nameB g.re = true) (h : 0 ≤ g.fr ∧ g.fr ≤ g.mo ∧ g.mo ≤ 1000000) : leB Ts g = true := by
  unfold leB inB
  rw [h1, h2, decide_eq_true (by omega), decide_eq_true (by omega)]
  rfl

section
variable (lo : Nat) (sv mv tv ov gv lv pv : Value) (Ss : List Sh) (Ms : List Md) (Ts : List Tm) (B : Bk) (w : World)

set_option maxRecDepth 100000 in
set_option maxHeartbeats 16000000 in
theorem specSums_any (hl : LawAt lo w sv mv tv Ss Ms Ts) (h : BookAt lo w ov gv lv pv B) (hn : ObsSmall B.os) (ht : inB 0 1000000 B.tick = true) :
    Calls Tryz.prog 65 #[.agg #[sv, mv, tv], .agg #[.int .i64 B.now, .int .i64 B.tick, .int .i64 B.given, ov, gv, lv, pv]] w fun e w' => e = .returned (.bool (lpsB Ss Ts B)) ∧ Below w.heap.size w w' := by
  have HL := hide hl
  have HK := hide h
  have HN := hide hn
  have hti : wrap64 (B.tick + 10) = B.tick + 10 := by
    have := of_decide_eq_true ht
    unfold wrap64
    omega
  obtain ⟨sa, sc, rfl⟩ := hl.shs.form
  obtain ⟨ma, mc, rfl⟩ := hl.mds.form
  obtain ⟨ta, tc, rfl⟩ := hl.tms.form
  obtain ⟨a0, k0, rfl⟩ := h.obs.form
  obtain ⟨a1, k1, rfl⟩ := h.grs.form
  obtain ⟨a2, k2, rfl⟩ := h.les.form
  obtain ⟨a3, k3, rfl⟩ := h.pus.form
  clear hl h hn ht
  by_cases hll : B.ls.length ≤ 10
  case neg =>
    have HE : Hid (lpsB Ss Ts B = false) := lps_l (by unfold ledgersB; rw [decide_eq_false hll]; rfl)
    have hgt : decide ((10 : Int) < (B.ls.length : Int)) = true := by simp; omega
    go_enter Tryz.func65, Tryz.ntmps65
    go_wp2
    go_ret
    exact ⟨ret_bool HE.out.symm, (one_al w _).alloc (by simp) _⟩
  have hgt : decide ((10 : Int) < (B.ls.length : Int)) = false := by simp; omega
  by_cases hpl : B.ps.length ≤ 24
  case neg =>
    have HE : Hid (lpsB Ss Ts B = false) := lps_p (by unfold pursesB; rw [decide_eq_false hpl]; rfl)
    have hgt' : decide ((24 : Int) < (B.ps.length : Int)) = true := by simp; omega
    go_enter Tryz.func65, Tryz.ntmps65
    go_wp2
    go_ret
    exact ⟨ret_bool HE.out.symm, (one_al w _).alloc (by simp) _⟩
  have hgt' : decide ((24 : Int) < (B.ps.length : Int)) = false := by simp; omega
  go_enter Tryz.func65, Tryz.ntmps65
  go_wp2
  generalize hWa : (World.alloc (w.alloc _) _) = Wa
  have HB : Hid (Below w.heap.size w Wa) := by rw [← hWa]; exact (one_al w _).alloc (by simp) _
  have HX : Hid (Box Wa w.heap.size #[.slice sa Ss.length sc, .slice ma Ms.length mc, .slice ta Ts.length tc]) := by rw [← hWa]; exact (Box.new _ _ _ _ rfl).on (one_al _ _)
  have HY : Hid (Box Wa (w.heap.size + 1) #[.int .i64 B.now, .int .i64 B.tick, .int .i64 B.given, .slice a0 B.os.length k0, .slice a1 B.gs.length k1, .slice a2 B.ls.length k2, .slice a3 B.ps.length k3]) := by rw [← hWa]; exact Box.new _ _ _ _ (by simp)
  clear hWa hgt hgt'
  go_loopw [5] (fun i wr => ∃ m : Nat, i = .int .i64 m ∧ m ≤ B.ps.length ∧ Below w.heap.size w wr ∧ Box wr w.heap.size #[.slice sa Ss.length sc, .slice ma Ms.length mc, .slice ta Ts.length tc] ∧ Box wr (w.heap.size + 1) #[.int .i64 B.now, .int .i64 B.tick, .int .i64 B.given, .slice a0 B.os.length k0, .slice a1 B.gs.length k1, .slice a2 B.ls.length k2, .slice a3 B.ps.length k3] ∧ (∀ j (h : j < B.ps.length), j < m → puB B B.ps[j] = true) ∧ ∀ j, j < m → risI cPus B.ps j = true) (fun i _ => B.ps.length - (intOf i).toNat)
  case atStart => exact ⟨0, rfl, Nat.zero_le _, HB.out, HX.out, HY.out, fun j _ h => by omega, fun j h => by omega⟩
  case round =>
    obtain ⟨m, rfl, hm, hb, hx, hx2, hall, hris⟩ := hrel
    have HBr := hide hb
    have HXr := hide hx
    have HYr := hide hx2
    have HA := hide hall
    have HS := hide hris
    have x6 := hx2.cell 6
    simp at x6
    clear hb hx hx2 hall hris HB HX HY
    by_cases hlt : m < B.ps.length
    · obtain ⟨b, off, rfl, hbw, -, hc⟩ := HK.out.pus.full' (by omega)
      obtain ⟨hs, hcell⟩ := hc m hlt
      obtain ⟨c0, c1, c2, c3, c4⟩ := hcell.below HBr.out hbw
      have HZ := hide hs
      have HQ : Hid (puB B B.ps[m] = (B.ls.any (ledIs B.ps[m].tm B.ps[m].re) && nameB B.ps[m].dr && inB 1 1000000 B.ps[m].am && inB B.tick (B.tick + 10) B.ps[m].un)) := rfl
      go_wp2
      generalize hWq : wr.alloc _ = Wq
      have HBq : Hid (Below wr.heap.size wr Wq) := by rw [← hWq]; exact one_al _ _
      have HPq : Hid (Box Wq wr.heap.size #[.string B.ps[m].dr, .string B.ps[m].tm, .string B.ps[m].re, .int .i64 B.ps[m].am, .int .i64 B.ps[m].un]) := by rw [← hWq]; exact Box.new _ _ _ _ rfl
      clear hWq
      have HXq := hide (HXr.out.on HBq.out)
      have HYq := hide (HYr.out.on HBq.out)
      have HBw : Hid (Below w.heap.size w Wq) := HBr.out.trans (HBq.out.mono HBr.out.size)
      clear c0 c1 c2 c3 c4 hcell hs x6
      generalize hβ : wr.heap.size = β at *
      go_cut [75] (fun c wc => c = .bool (!(puB B B.ps[m] && risI cPus B.ps m)) ∧ Below Wq.heap.size Wq wc)
      case first =>
        have xn : Nonempty (In (Up Wq)) := ⟨⟨Wq, Below.refl _ _⟩⟩
        have xs := fun (X : In (Up Wq)) => in_self X
        have x0 : ∀ X : In (Up Wq), X.w.cell? ⟨w.heap.size + 1, 0, none⟩ = some (.int .i64 B.now) := fun X => Up.cell X (by rw [HYq.out.cell 0]; rfl)
        have x1 : ∀ X : In (Up Wq), X.w.cell? ⟨w.heap.size + 1, 1, none⟩ = some (.int .i64 B.tick) := fun X => Up.cell X (by rw [HYq.out.cell 1]; rfl)
        have x2 : ∀ X : In (Up Wq), X.w.cell? ⟨w.heap.size + 1, 2, none⟩ = some (.int .i64 B.given) := fun X => Up.cell X (by rw [HYq.out.cell 2]; rfl)
        have x3 : ∀ X : In (Up Wq), X.w.cell? ⟨w.heap.size + 1, 3, none⟩ = some (.slice a0 B.os.length k0) := fun X => Up.cell X (by rw [HYq.out.cell 3]; rfl)
        have x4 : ∀ X : In (Up Wq), X.w.cell? ⟨w.heap.size + 1, 4, none⟩ = some (.slice a1 B.gs.length k1) := fun X => Up.cell X (by rw [HYq.out.cell 4]; rfl)
        have x5 : ∀ X : In (Up Wq), X.w.cell? ⟨w.heap.size + 1, 5, none⟩ = some (.slice a2 B.ls.length k2) := fun X => Up.cell X (by rw [HYq.out.cell 5]; rfl)
        have x6 : ∀ X : In (Up Wq), X.w.cell? ⟨w.heap.size + 1, 6, none⟩ = some (.slice (some ⟨b, off, none⟩) B.ps.length k3) := fun X => Up.cell X (by rw [HYq.out.cell 6]; rfl)
        have y0 : ∀ X : In (Up Wq), X.w.cell? ⟨β, 0, none⟩ = some (.string B.ps[m].dr) := fun X => Up.cell X (by rw [HPq.out.cell 0]; rfl)
        have y1 : ∀ X : In (Up Wq), X.w.cell? ⟨β, 1, none⟩ = some (.string B.ps[m].tm) := fun X => Up.cell X (by rw [HPq.out.cell 1]; rfl)
        have y2 : ∀ X : In (Up Wq), X.w.cell? ⟨β, 2, none⟩ = some (.string B.ps[m].re) := fun X => Up.cell X (by rw [HPq.out.cell 2]; rfl)
        have y3 : ∀ X : In (Up Wq), X.w.cell? ⟨β, 3, none⟩ = some (.int .i64 B.ps[m].am) := fun X => Up.cell X (by rw [HPq.out.cell 3]; rfl)
        have y4 : ∀ X : In (Up Wq), X.w.cell? ⟨β, 4, none⟩ = some (.int .i64 B.ps[m].un) := fun X => Up.cell X (by rw [HPq.out.cell 4]; rfl)
        have sw0 := HZ.out.s0
        have sw1 := HZ.out.s1
        have sw2 := HZ.out.s2
        have hd2 := ledP_neg B.ls B.ps[m].tm B.ps[m].re
        by_cases h0 : m = 0
        · have hd0 : decide (0 < m) = false := by simp; omega
          have HRI : Hid (risI cPus B.ps m = true) := by unfold Hid; rw [h0]; rfl
          clear h0 hc
          refine wp_region_class (Up Wq) (by kernel_rfl) (by kernel_rfl) ((Below.refl _ _).drew) ?_
          cases h1 : nameB B.ps[m].dr with
          | false =>
            repeat (go_big_quiet_step (
              first
              | (go_at_call 62; rename_i X; exact (in_any _ _ _ _).mono fun _ _ h => ⟨h.1, X, h.2⟩)
              | (go_at_call 88; rename_i X; exact (nameOk_any _ _ (by with_reducible assumption)).mono fun _ _ h => ⟨h.1, X, h.2⟩)
              | (go_at_call 110; rename_i X; exact (l5Ledger_any lo _ _ _ _ B _ _ _ (HK.out.below (HBw.out.trans (X.h.mono HBw.out.size)))).mono fun _ _ h => ⟨h.1, Up.next X h.2⟩)))
            refine wpQuiet_nil ?_
            intro wn hw
            obtain ⟨X, hX⟩ := hw
            have HWN : Below Wq.heap.size Wq wn := by rw [hX]; exact X.h
            clear hX X xs xn x0 x1 x2 x3 x4 x5 x6 y0 y1 y2 y3 y4
            go_wp2
            go_meet
            exact ⟨congrArg Value.bool (by rw [HQ.out, h1, Bool.and_false]; rfl), HWN⟩
          | true =>
            cases h2 : B.ls.any (ledIs B.ps[m].tm B.ps[m].re) with
            | false =>
              rw [h2] at hd2
              repeat (go_big_quiet_step (
                first
                | (go_at_call 62; rename_i X; exact (in_any _ _ _ _).mono fun _ _ h => ⟨h.1, X, h.2⟩)
                | (go_at_call 88; rename_i X; exact (nameOk_any _ _ (by with_reducible assumption)).mono fun _ _ h => ⟨h.1, X, h.2⟩)
                | (go_at_call 110; rename_i X; exact (l5Ledger_any lo _ _ _ _ B _ _ _ (HK.out.below (HBw.out.trans (X.h.mono HBw.out.size)))).mono fun _ _ h => ⟨h.1, Up.next X h.2⟩)))
              refine wpQuiet_nil ?_
              intro wn hw
              obtain ⟨X, hX⟩ := hw
              have HWN : Below Wq.heap.size Wq wn := by rw [hX]; exact X.h
              clear hX X xs xn x0 x1 x2 x3 x4 x5 x6 y0 y1 y2 y3 y4
              go_wp2
              go_meet
              exact ⟨congrArg Value.bool (by rw [HQ.out, h2]; rfl), HWN⟩
            | true =>
              rw [h2] at hd2
              cases h3 : inB 1 1000000 B.ps[m].am with
              | false =>
                repeat (go_big_quiet_step (
                  first
                  | (go_at_call 62; rename_i X; exact (in_any _ _ _ _).mono fun _ _ h => ⟨h.1, X, h.2⟩)
                  | (go_at_call 88; rename_i X; exact (nameOk_any _ _ (by with_reducible assumption)).mono fun _ _ h => ⟨h.1, X, h.2⟩)
                  | (go_at_call 110; rename_i X; exact (l5Ledger_any lo _ _ _ _ B _ _ _ (HK.out.below (HBw.out.trans (X.h.mono HBw.out.size)))).mono fun _ _ h => ⟨h.1, Up.next X h.2⟩)))
                refine wpQuiet_nil ?_
                intro wn hw
                obtain ⟨X, hX⟩ := hw
                have HWN : Below Wq.heap.size Wq wn := by rw [hX]; exact X.h
                clear hX X xs xn x0 x1 x2 x3 x4 x5 x6 y0 y1 y2 y3 y4
                go_wp2
                go_meet
                exact ⟨congrArg Value.bool (by rw [HQ.out, h2, h1, h3]; rfl), HWN⟩
              | true =>
                cases h4 : inB B.tick (B.tick + 10) B.ps[m].un with
                | false =>
                  repeat (go_big_quiet_step (
                    first
                    | (go_at_call 62; rename_i X; exact (in_any _ _ _ _).mono fun _ _ h => ⟨h.1, X, h.2⟩)
                    | (go_at_call 88; rename_i X; exact (nameOk_any _ _ (by with_reducible assumption)).mono fun _ _ h => ⟨h.1, X, h.2⟩)
                    | (go_at_call 110; rename_i X; exact (l5Ledger_any lo _ _ _ _ B _ _ _ (HK.out.below (HBw.out.trans (X.h.mono HBw.out.size)))).mono fun _ _ h => ⟨h.1, Up.next X h.2⟩)))
                  refine wpQuiet_nil ?_
                  intro wn hw
                  obtain ⟨X, hX⟩ := hw
                  have HWN : Below Wq.heap.size Wq wn := by rw [hX]; exact X.h
                  clear hX X xs xn x0 x1 x2 x3 x4 x5 x6 y0 y1 y2 y3 y4
                  go_wp2
                  go_meet
                  exact ⟨congrArg Value.bool (by rw [HQ.out, h2, h1, h3, h4]; rfl), HWN⟩
                | true =>
                  repeat (go_big_quiet_step (
                    first
                    | (go_at_call 62; rename_i X; exact (in_any _ _ _ _).mono fun _ _ h => ⟨h.1, X, h.2⟩)
                    | (go_at_call 88; rename_i X; exact (nameOk_any _ _ (by with_reducible assumption)).mono fun _ _ h => ⟨h.1, X, h.2⟩)
                    | (go_at_call 110; rename_i X; exact (l5Ledger_any lo _ _ _ _ B _ _ _ (HK.out.below (HBw.out.trans (X.h.mono HBw.out.size)))).mono fun _ _ h => ⟨h.1, Up.next X h.2⟩)))
                  refine wpQuiet_nil ?_
                  intro wn hw
                  obtain ⟨X, hX⟩ := hw
                  have HWN : Below Wq.heap.size Wq wn := by rw [hX]; exact X.h
                  clear hX X xs xn x0 x1 x2 x3 x4 x5 x6 y0 y1 y2 y3 y4
                  go_wp2
                  go_meet
                  exact ⟨congrArg Value.bool (by rw [HQ.out, h2, h1, h3, h4, HRI.out]; rfl), HWN⟩
        · have hd0 : decide (0 < m) = true := by simp; omega
          obtain ⟨k, hkm⟩ : ∃ k, m = k + 1 := ⟨m - 1, by omega⟩
          have hltk : k < B.ps.length := by omega
          obtain ⟨hsk, hck⟩ := hc k hltk
          have yk0 : ∀ X : In (Up Wq), X.w.cell? ⟨b, off + k * 5, none⟩ = some (.string B.ps[k].dr) := fun X => Up.cell X (hck.below HBw.out hbw).c0
          have yk1 : ∀ X : In (Up Wq), X.w.cell? ⟨b, off + k * 5 + 1, none⟩ = some (.string B.ps[k].tm) := fun X => Up.cell X (hck.below HBw.out hbw).c1
          have yk2 : ∀ X : In (Up Wq), X.w.cell? ⟨b, off + k * 5 + 2, none⟩ = some (.string B.ps[k].re) := fun X => Up.cell X (hck.below HBw.out hbw).c2
          have yk3 : ∀ X : In (Up Wq), X.w.cell? ⟨b, off + k * 5 + 3, none⟩ = some (.int .i64 B.ps[k].am) := fun X => Up.cell X (hck.below HBw.out hbw).c3
          have yk4 : ∀ X : In (Up Wq), X.w.cell? ⟨b, off + k * 5 + 4, none⟩ = some (.int .i64 B.ps[k].un) := fun X => Up.cell X (hck.below HBw.out hbw).c4
          have HRI0 : Hid (risI cPus B.ps m = decide (cmp3 B.ps[k].dr B.ps[k].tm B.ps[k].re B.ps[m].dr B.ps[m].tm B.ps[m].re < 0)) := by
            subst hkm
            unfold Hid
            rw [risI_at hlt]
            rfl
          have e2 : IntKind.i64.wrap ((m : Int) - 1) = k := by rw [IntWalk.i64_left]; unfold wrap64; omega
          have e3 : wrap64 ((m : Int) - 1) = k := by unfold wrap64; omega
          have e4 : (m : Int) - 1 = k := by omega
          have HKM := hide hkm
          clear h0 hc hsk hck hkm
          refine wp_region_class (Up Wq) (by kernel_rfl) (by kernel_rfl) ((Below.refl _ _).drew) ?_
          cases h1 : nameB B.ps[m].dr with
          | false =>
            repeat (go_big_quiet_step (
              first
              | (go_at_call 62; rename_i X; exact (in_any _ _ _ _).mono fun _ _ h => ⟨h.1, X, h.2⟩)
              | (go_at_call 88; rename_i X; exact (nameOk_any _ _ (by with_reducible assumption)).mono fun _ _ h => ⟨h.1, X, h.2⟩)
              | (go_at_call 110; rename_i X; exact (l5Ledger_any lo _ _ _ _ B _ _ _ (HK.out.below (HBw.out.trans (X.h.mono HBw.out.size)))).mono fun _ _ h => ⟨h.1, Up.next X h.2⟩)
              | (go_at_call 111; rename_i X; exact (purseKey_any B.ps[k] B.ps[m] _).mono fun _ _ h => ⟨h.1, Up.next X h.2⟩)))
            refine wpQuiet_nil ?_
            intro wn hw
            obtain ⟨X, hX⟩ := hw
            have HWN : Below Wq.heap.size Wq wn := by rw [hX]; exact X.h
            clear hX X xs xn x0 x1 x2 x3 x4 x5 x6 y0 y1 y2 y3 y4 yk0 yk1 yk2 yk3 yk4
            go_wp2
            go_meet
            exact ⟨congrArg Value.bool (by rw [HQ.out, h1, Bool.and_false]; rfl), HWN⟩
          | true =>
            cases h2 : B.ls.any (ledIs B.ps[m].tm B.ps[m].re) with
            | false =>
              rw [h2] at hd2
              repeat (go_big_quiet_step (
                first
                | (go_at_call 62; rename_i X; exact (in_any _ _ _ _).mono fun _ _ h => ⟨h.1, X, h.2⟩)
                | (go_at_call 88; rename_i X; exact (nameOk_any _ _ (by with_reducible assumption)).mono fun _ _ h => ⟨h.1, X, h.2⟩)
                | (go_at_call 110; rename_i X; exact (l5Ledger_any lo _ _ _ _ B _ _ _ (HK.out.below (HBw.out.trans (X.h.mono HBw.out.size)))).mono fun _ _ h => ⟨h.1, Up.next X h.2⟩)
                | (go_at_call 111; rename_i X; exact (purseKey_any B.ps[k] B.ps[m] _).mono fun _ _ h => ⟨h.1, Up.next X h.2⟩)))
              refine wpQuiet_nil ?_
              intro wn hw
              obtain ⟨X, hX⟩ := hw
              have HWN : Below Wq.heap.size Wq wn := by rw [hX]; exact X.h
              clear hX X xs xn x0 x1 x2 x3 x4 x5 x6 y0 y1 y2 y3 y4 yk0 yk1 yk2 yk3 yk4
              go_wp2
              go_meet
              exact ⟨congrArg Value.bool (by rw [HQ.out, h2]; rfl), HWN⟩
            | true =>
              rw [h2] at hd2
              cases h3 : inB 1 1000000 B.ps[m].am with
              | false =>
                repeat (go_big_quiet_step (
                  first
                  | (go_at_call 62; rename_i X; exact (in_any _ _ _ _).mono fun _ _ h => ⟨h.1, X, h.2⟩)
                  | (go_at_call 88; rename_i X; exact (nameOk_any _ _ (by with_reducible assumption)).mono fun _ _ h => ⟨h.1, X, h.2⟩)
                  | (go_at_call 110; rename_i X; exact (l5Ledger_any lo _ _ _ _ B _ _ _ (HK.out.below (HBw.out.trans (X.h.mono HBw.out.size)))).mono fun _ _ h => ⟨h.1, Up.next X h.2⟩)
                  | (go_at_call 111; rename_i X; exact (purseKey_any B.ps[k] B.ps[m] _).mono fun _ _ h => ⟨h.1, Up.next X h.2⟩)))
                refine wpQuiet_nil ?_
                intro wn hw
                obtain ⟨X, hX⟩ := hw
                have HWN : Below Wq.heap.size Wq wn := by rw [hX]; exact X.h
                clear hX X xs xn x0 x1 x2 x3 x4 x5 x6 y0 y1 y2 y3 y4 yk0 yk1 yk2 yk3 yk4
                go_wp2
                go_meet
                exact ⟨congrArg Value.bool (by rw [HQ.out, h2, h1, h3]; rfl), HWN⟩
              | true =>
                cases h4 : inB B.tick (B.tick + 10) B.ps[m].un with
                | false =>
                  repeat (go_big_quiet_step (
                    first
                    | (go_at_call 62; rename_i X; exact (in_any _ _ _ _).mono fun _ _ h => ⟨h.1, X, h.2⟩)
                    | (go_at_call 88; rename_i X; exact (nameOk_any _ _ (by with_reducible assumption)).mono fun _ _ h => ⟨h.1, X, h.2⟩)
                    | (go_at_call 110; rename_i X; exact (l5Ledger_any lo _ _ _ _ B _ _ _ (HK.out.below (HBw.out.trans (X.h.mono HBw.out.size)))).mono fun _ _ h => ⟨h.1, Up.next X h.2⟩)
                    | (go_at_call 111; rename_i X; exact (purseKey_any B.ps[k] B.ps[m] _).mono fun _ _ h => ⟨h.1, Up.next X h.2⟩)))
                  refine wpQuiet_nil ?_
                  intro wn hw
                  obtain ⟨X, hX⟩ := hw
                  have HWN : Below Wq.heap.size Wq wn := by rw [hX]; exact X.h
                  clear hX X xs xn x0 x1 x2 x3 x4 x5 x6 y0 y1 y2 y3 y4 yk0 yk1 yk2 yk3 yk4
                  go_wp2
                  go_meet
                  exact ⟨congrArg Value.bool (by rw [HQ.out, h2, h1, h3, h4]; rfl), HWN⟩
                | true =>
                  by_cases hnu : cmp3 B.ps[k].dr B.ps[k].tm B.ps[k].re B.ps[m].dr B.ps[m].tm B.ps[m].re < 0
                  · have HRI : Hid (risI cPus B.ps m = true) := HRI0.out.trans (decide_eq_true hnu)
                    have hd1 : decide (0 ≤ cmp3 B.ps[k].dr B.ps[k].tm B.ps[k].re B.ps[m].dr B.ps[m].tm B.ps[m].re) = false := by simp; omega
                    clear hnu
                    repeat (go_big_quiet_step (
                      first
                      | (go_at_call 62; rename_i X; exact (in_any _ _ _ _).mono fun _ _ h => ⟨h.1, X, h.2⟩)
                      | (go_at_call 88; rename_i X; exact (nameOk_any _ _ (by with_reducible assumption)).mono fun _ _ h => ⟨h.1, X, h.2⟩)
                      | (go_at_call 110; rename_i X; exact (l5Ledger_any lo _ _ _ _ B _ _ _ (HK.out.below (HBw.out.trans (X.h.mono HBw.out.size)))).mono fun _ _ h => ⟨h.1, Up.next X h.2⟩)
                      | (go_at_call 111; rename_i X; exact (purseKey_any B.ps[k] B.ps[m] _).mono fun _ _ h => ⟨h.1, Up.next X h.2⟩)))
                    refine wpQuiet_nil ?_
                    intro wn hw
                    obtain ⟨X, hX⟩ := hw
                    have HWN : Below Wq.heap.size Wq wn := by rw [hX]; exact X.h
                    clear hX X xs xn x0 x1 x2 x3 x4 x5 x6 y0 y1 y2 y3 y4 yk0 yk1 yk2 yk3 yk4
                    go_wp2
                    go_meet
                    exact ⟨congrArg Value.bool (by rw [HQ.out, h2, h1, h3, h4, HRI.out]; rfl), HWN⟩
                  · have HRI : Hid (risI cPus B.ps m = false) := HRI0.out.trans (decide_eq_false hnu)
                    have hd1 : decide (0 ≤ cmp3 B.ps[k].dr B.ps[k].tm B.ps[k].re B.ps[m].dr B.ps[m].tm B.ps[m].re) = true := by simp; omega
                    clear hnu
                    repeat (go_big_quiet_step (
                      first
                      | (go_at_call 62; rename_i X; exact (in_any _ _ _ _).mono fun _ _ h => ⟨h.1, X, h.2⟩)
                      | (go_at_call 88; rename_i X; exact (nameOk_any _ _ (by with_reducible assumption)).mono fun _ _ h => ⟨h.1, X, h.2⟩)
                      | (go_at_call 110; rename_i X; exact (l5Ledger_any lo _ _ _ _ B _ _ _ (HK.out.below (HBw.out.trans (X.h.mono HBw.out.size)))).mono fun _ _ h => ⟨h.1, Up.next X h.2⟩)
                      | (go_at_call 111; rename_i X; exact (purseKey_any B.ps[k] B.ps[m] _).mono fun _ _ h => ⟨h.1, Up.next X h.2⟩)))
                    refine wpQuiet_nil ?_
                    intro wn hw
                    obtain ⟨X, hX⟩ := hw
                    have HWN : Below Wq.heap.size Wq wn := by rw [hX]; exact X.h
                    clear hX X xs xn x0 x1 x2 x3 x4 x5 x6 y0 y1 y2 y3 y4 yk0 yk1 yk2 yk3 yk4
                    go_wp2
                    go_meet
                    exact ⟨congrArg Value.bool (by rw [HQ.out, h2, h1, h3, h4, HRI.out]; rfl), HWN⟩
      case rest =>
        obtain ⟨hc75, hwn⟩ := hcut
        have HWN := hide hwn
        have HWB : Hid (Below w.heap.size w wc) := HBw.out.trans (HWN.out.mono HBw.out.size)
        clear hwn hc
        cases hgn : puB B B.ps[m] with
        | false =>
          have HN : Hid (lpsB Ss Ts B = false) := lps_p (purses_no1 hlt hgn)
          rw [hgn] at hc75
          subst hc75
          go_wp2
          go_ret
          exact ⟨ret_bool HN.out.symm, HWB.out⟩
        | true =>
          cases hri : risI cPus B.ps m with
          | false =>
            have HN : Hid (lpsB Ss Ts B = false) := lps_p (purses_no2 hlt hri)
            rw [hgn, hri] at hc75
            subst hc75
            go_wp2
            go_ret
            exact ⟨ret_bool HN.out.symm, HWB.out⟩
          | true =>
            have HT := hide hgn
            have HR := hide hri
            rw [hgn, hri] at hc75
            subst hc75
            go_wp2
            go_roundw
            case rel => exact ⟨m + 1, by go_num, by omega, HWB.out, HXq.out.on HWN.out, HYq.out.on HWN.out, step_all HA.out hlt HT.out, step_ris HS.out HR.out⟩
            case measure => simp [intOf]; omega
    · have HPT : Hid (pursesB B = true) := purses_yes hpl (fun j hj => HA.out j hj (by omega)) (fun j hj => HS.out j (by omega))
      clear HA HS
      go_wp2
      go_loopw [7] (fun i wr => ∃ m : Nat, i = .int .i64 m ∧ m ≤ B.ls.length ∧ Below w.heap.size w wr ∧ Box wr w.heap.size #[.slice sa Ss.length sc, .slice ma Ms.length mc, .slice ta Ts.length tc] ∧ Box wr (w.heap.size + 1) #[.int .i64 B.now, .int .i64 B.tick, .int .i64 B.given, .slice a0 B.os.length k0, .slice a1 B.gs.length k1, .slice a2 B.ls.length k2, .slice a3 B.ps.length k3] ∧ (∀ j (h : j < B.ls.length), j < m → leB Ts B.ls[j] = true) ∧ (∀ j, j < m → risI cLes B.ls j = true) ∧ ∀ j (h : j < B.ls.length), j < m → sumOne Ss Ts B B.ls[j] = true) (fun i _ => B.ls.length - (intOf i).toNat)
      case atStart => exact ⟨0, rfl, Nat.zero_le _, HBr.out, HXr.out, HYr.out, fun j _ h => by omega, fun j h => by omega, fun j _ h => by omega⟩
      case round =>
        clear HBr HXr HYr x6 hm hlt
        obtain ⟨m, rfl, hm, hb, hx, hx2, hall, hris, hsum⟩ := hrel
        have HBr := hide hb
        have HXr := hide hx
        have HYr := hide hx2
        have HA := hide hall
        have HS := hide hris
        have HU := hide hsum
        have x5 := hx2.cell 5
        simp at x5
        clear hb hx hx2 hall hris hsum
        by_cases hlt : m < B.ls.length
        · obtain ⟨b, off, rfl, hbw, -, hc⟩ := HK.out.les.full' (by omega)
          obtain ⟨hs, hcell⟩ := hc m hlt
          obtain ⟨c0, c1, c2, c3⟩ := hcell.below HBr.out hbw
          have HZ := hide hs
          have HQ : Hid (sumOne Ss Ts B B.ls[m] = decide (wrap64 (usedZ Ss Ts B.os B.ls[m].tm B.ls[m].re + outZ B.ps B.ls[m].tm B.ls[m].re + B.ls[m].fr) = B.ls[m].mo)) := rfl
          have x2 := HXr.out.cell 2
          simp at x2
          have xlt := HXr.out.lt
          have x2 : ∀ o, (wr.alloc o).cell? ⟨w.heap.size, 2, none⟩ = some (.slice ta Ts.length tc) := fun o => (cell_alloc_lt _ _ _ _ xlt).trans x2
          clear xlt
          go_wp2_with fail
          generalize hWq : wr.alloc _ = Wq
          have HBq : Hid (Below wr.heap.size wr Wq) := by rw [← hWq]; exact one_al _ _
          have HPq : Hid (Box Wq wr.heap.size #[.string B.ls[m].tm, .string B.ls[m].re, .int .i64 B.ls[m].mo, .int .i64 B.ls[m].fr]) := by rw [← hWq]; exact Box.new _ _ _ _ rfl
          clear hWq x2 x5
          have HXq := hide (HXr.out.on HBq.out)
          have HYq := hide (HYr.out.on HBq.out)
          have HBw : Hid (Below w.heap.size w Wq) := HBr.out.trans (HBq.out.mono HBr.out.size)
          have HC : Hid (∀ k (h : k < B.ls.length), w.cell? ⟨b, off + k * 4, none⟩ = some (.string B.ls[k].tm) ∧ w.cell? ⟨b, off + k * 4 + 1, none⟩ = some (.string B.ls[k].re)) := fun k hk => by
            obtain ⟨_, hck⟩ := hc k hk
            exact ⟨hck.c0, hck.c1⟩
          clear c0 c1 c2 c3 hcell hs hc
          generalize hβ : wr.heap.size = β at *
          refine (l4Team_any lo _ Ts _ _ (HL.out.below HBw.out).tms).mono ?_
          rintro e Wq ⟨rfl, rfl⟩
          have s1 := HZ.out.s1
          have y0 := HPq.out.cell 0
          have y1 := HPq.out.cell 1
          have y2 := HPq.out.cell 2
          have y3 := HPq.out.cell 3
          simp at y0 y1 y2 y3
          cases h1 : hasT Ts B.ls[m].tm with
          | false =>
            have HN : Hid (lpsB Ss Ts B = false) := lps_l (ledgers_no1 hlt (leB_no1 h1))
            go_wp2
            go_ret
            exact ⟨ret_bool HN.out.symm, HBw.out⟩
          | true =>
            cases h2 : nameB B.ls[m].re with
            | false =>
              have HN : Hid (lpsB Ss Ts B = false) := lps_l (ledgers_no1 hlt (leB_no2 h2))
              go_wp2_with (go_at_call 88; refine (nameOk_any _ _ s1).mono ?_; rintro e Wq ⟨rfl, rfl⟩)
              go_ret
              exact ⟨ret_bool HN.out.symm, HBw.out⟩
            | true =>
              by_cases f0 : B.ls[m].fr < 0
              case pos =>
                have df0 : decide (B.ls[m].fr < 0) = true := decide_eq_true f0
                have HN : Hid (lpsB Ss Ts B = false) := lps_l (ledgers_no1 hlt (leB_no3 (by omega)))
                go_wp2_with (go_at_call 88; refine (nameOk_any _ _ s1).mono ?_; rintro e Wq ⟨rfl, rfl⟩)
                go_ret
                exact ⟨ret_bool HN.out.symm, HBw.out⟩
              have df0 : decide (B.ls[m].fr < 0) = false := decide_eq_false f0
              by_cases f1 : B.ls[m].mo < B.ls[m].fr
              case pos =>
                have df1 : decide (B.ls[m].mo < B.ls[m].fr) = true := decide_eq_true f1
                have HN : Hid (lpsB Ss Ts B = false) := lps_l (ledgers_no1 hlt (leB_no3 (by omega)))
                go_wp2_with (go_at_call 88; refine (nameOk_any _ _ s1).mono ?_; rintro e Wq ⟨rfl, rfl⟩)
                go_ret
                exact ⟨ret_bool HN.out.symm, HBw.out⟩
              have df1 : decide (B.ls[m].mo < B.ls[m].fr) = false := decide_eq_false f1
              by_cases f2 : 1000000 < B.ls[m].mo
              case pos =>
                have df2 : decide (1000000 < B.ls[m].mo) = true := decide_eq_true f2
                have HN : Hid (lpsB Ss Ts B = false) := lps_l (ledgers_no1 hlt (leB_no3 (by omega)))
                go_wp2_with (go_at_call 88; refine (nameOk_any _ _ s1).mono ?_; rintro e Wq ⟨rfl, rfl⟩)
                go_ret
                exact ⟨ret_bool HN.out.symm, HBw.out⟩
              have df2 : decide (1000000 < B.ls[m].mo) = false := decide_eq_false f2
              have HLE : Hid (leB Ts B.ls[m] = true) := leB_yes h1 h2 (by omega)
              clear f0 f1 f2
              go_wp2_with (go_at_call 88; refine (nameOk_any _ _ s1).mono ?_; rintro e Wq ⟨rfl, rfl⟩)
              clear df0 df1 df2
              go_cut [140] (fun c wc => c = .bool (!risI cLes B.ls m) ∧ Below Wq.heap.size Wq wc)
              case first =>
                have x5 := HYq.out.cell 5
                simp at x5
                by_cases h0 : m = 0
                · have hd0 : decide (0 < m) = false := by simp; omega
                  have HRI : Hid (risI cLes B.ls m = true) := by unfold Hid; rw [h0]; rfl
                  clear h0
                  go_quiet ((go_at_call 105; exact (l5Two_any _ _ _ _ _).mono fun _ _ h => ⟨h.1, _, h.2⟩))
                  go_wp2
                  go_meet
                  exact ⟨congrArg Value.bool (by rw [HRI.out]; rfl), below_drewN (Below.refl _ _) _⟩
                · have hd0 : decide (0 < m) = true := by simp; omega
                  obtain ⟨k, hkm⟩ : ∃ k, m = k + 1 := ⟨m - 1, by omega⟩
                  have hltk : k < B.ls.length := by omega
                  have yk0 : Wq.cell? ⟨b, off + k * 4, none⟩ = some (.string B.ls[k].tm) := (HBw.out.cell (p := ⟨b, off + k * 4, none⟩) hbw).trans (HC.out k hltk).1
                  have yk1 : Wq.cell? ⟨b, off + k * 4 + 1, none⟩ = some (.string B.ls[k].re) := (HBw.out.cell (p := ⟨b, off + k * 4 + 1, none⟩) hbw).trans (HC.out k hltk).2
                  have HRI0 : Hid (risI cLes B.ls m = decide (cmp2 B.ls[k].tm B.ls[k].re B.ls[m].tm B.ls[m].re < 0)) := by
                    subst hkm
                    unfold Hid
                    rw [risI_at hlt]
                    rfl
                  have e2 : IntKind.i64.wrap ((m : Int) - 1) = k := by rw [IntWalk.i64_left]; unfold wrap64; omega
                  have e3 : wrap64 ((m : Int) - 1) = k := by unfold wrap64; omega
                  have e4 : (m : Int) - 1 = k := by omega
                  have HKM := hide hkm
                  clear h0 hkm
                  by_cases hnu : cmp2 B.ls[k].tm B.ls[k].re B.ls[m].tm B.ls[m].re < 0
                  · have HRI : Hid (risI cLes B.ls m = true) := HRI0.out.trans (decide_eq_true hnu)
                    have hd1 : decide (0 ≤ cmp2 B.ls[k].tm B.ls[k].re B.ls[m].tm B.ls[m].re) = false := by simp; omega
                    clear hnu
                    go_quiet ((go_at_call 105; exact (l5Two_any _ _ _ _ _).mono fun _ _ h => ⟨h.1, _, h.2⟩))
                    go_wp2
                    go_meet
                    exact ⟨congrArg Value.bool (by rw [HRI.out]; rfl), below_drewN (Below.refl _ _) _⟩
                  · have HRI : Hid (risI cLes B.ls m = false) := HRI0.out.trans (decide_eq_false hnu)
                    have hd1 : decide (0 ≤ cmp2 B.ls[k].tm B.ls[k].re B.ls[m].tm B.ls[m].re) = true := by simp; omega
                    clear hnu
                    go_quiet ((go_at_call 105; exact (l5Two_any _ _ _ _ _).mono fun _ _ h => ⟨h.1, _, h.2⟩))
                    go_wp2
                    go_meet
                    exact ⟨congrArg Value.bool (by rw [HRI.out]; rfl), below_drewN (Below.refl _ _) _⟩
              case rest =>
                obtain ⟨hc140, hwn⟩ := hcut
                have HW1 := hide hwn
                have HB1 : Hid (Below w.heap.size w wc) := HBw.out.trans (HW1.out.mono HBw.out.size)
                have HX1 := hide (HXq.out.on HW1.out)
                have HY1 := hide (HYq.out.on HW1.out)
                have HP1 := hide (HPq.out.on HW1.out)
                clear hwn y0 y1 y2 y3
                cases hri : risI cLes B.ls m with
                | false =>
                  have HN : Hid (lpsB Ss Ts B = false) := lps_l (ledgers_no2 hlt hri)
                  rw [hri] at hc140
                  subst hc140
                  go_wp2
                  go_ret
                  exact ⟨ret_bool HN.out.symm, HB1.out⟩
                | true =>
                  have HR := hide hri
                  rw [hri] at hc140
                  subst hc140
                  clear hri
                  generalize wc = W1 at *
                  go_wp2
                  go_cut [160] (fun c wc => c = .bool (!sumOne Ss Ts B B.ls[m]) ∧ Below W1.heap.size W1 wc)
                  case first =>
                    have xn : Nonempty (In (Up W1)) := ⟨⟨W1, Below.refl _ _⟩⟩
                    have xs := fun (X : In (Up W1)) => in_self X
                    have l0 : ∀ X : In (Up W1), X.w.cell? ⟨w.heap.size, 0, none⟩ = some (.slice sa Ss.length sc) := fun X => Up.cell X (by rw [HX1.out.cell 0]; rfl)
                    have l1 : ∀ X : In (Up W1), X.w.cell? ⟨w.heap.size, 1, none⟩ = some (.slice ma Ms.length mc) := fun X => Up.cell X (by rw [HX1.out.cell 1]; rfl)
                    have l2 : ∀ X : In (Up W1), X.w.cell? ⟨w.heap.size, 2, none⟩ = some (.slice ta Ts.length tc) := fun X => Up.cell X (by rw [HX1.out.cell 2]; rfl)
                    have x0 : ∀ X : In (Up W1), X.w.cell? ⟨w.heap.size + 1, 0, none⟩ = some (.int .i64 B.now) := fun X => Up.cell X (by rw [HY1.out.cell 0]; rfl)
                    have x1 : ∀ X : In (Up W1), X.w.cell? ⟨w.heap.size + 1, 1, none⟩ = some (.int .i64 B.tick) := fun X => Up.cell X (by rw [HY1.out.cell 1]; rfl)
                    have x2 : ∀ X : In (Up W1), X.w.cell? ⟨w.heap.size + 1, 2, none⟩ = some (.int .i64 B.given) := fun X => Up.cell X (by rw [HY1.out.cell 2]; rfl)
                    have x3 : ∀ X : In (Up W1), X.w.cell? ⟨w.heap.size + 1, 3, none⟩ = some (.slice a0 B.os.length k0) := fun X => Up.cell X (by rw [HY1.out.cell 3]; rfl)
                    have x4 : ∀ X : In (Up W1), X.w.cell? ⟨w.heap.size + 1, 4, none⟩ = some (.slice a1 B.gs.length k1) := fun X => Up.cell X (by rw [HY1.out.cell 4]; rfl)
                    have x5 : ∀ X : In (Up W1), X.w.cell? ⟨w.heap.size + 1, 5, none⟩ = some (.slice (some ⟨b, off, none⟩) B.ls.length k2) := fun X => Up.cell X (by rw [HY1.out.cell 5]; rfl)
                    have x6 : ∀ X : In (Up W1), X.w.cell? ⟨w.heap.size + 1, 6, none⟩ = some (.slice a3 B.ps.length k3) := fun X => Up.cell X (by rw [HY1.out.cell 6]; rfl)
                    have y0 : ∀ X : In (Up W1), X.w.cell? ⟨β, 0, none⟩ = some (.string B.ls[m].tm) := fun X => Up.cell X (by rw [HP1.out.cell 0]; rfl)
                    have y1 : ∀ X : In (Up W1), X.w.cell? ⟨β, 1, none⟩ = some (.string B.ls[m].re) := fun X => Up.cell X (by rw [HP1.out.cell 1]; rfl)
                    have y2 : ∀ X : In (Up W1), X.w.cell? ⟨β, 2, none⟩ = some (.int .i64 B.ls[m].mo) := fun X => Up.cell X (by rw [HP1.out.cell 2]; rfl)
                    have y3 : ∀ X : In (Up W1), X.w.cell? ⟨β, 3, none⟩ = some (.int .i64 B.ls[m].fr) := fun X => Up.cell X (by rw [HP1.out.cell 3]; rfl)
                    have HV : Hid (wrap64 (wrap64 (wrap64 (usedZ Ss Ts B.os B.ls[m].tm B.ls[m].re) + wrap64 (outZ B.ps B.ls[m].tm B.ls[m].re)) + B.ls[m].fr) = wrap64 (usedZ Ss Ts B.os B.ls[m].tm B.ls[m].re + outZ B.ps B.ls[m].tm B.ls[m].re + B.ls[m].fr)) := by unfold Hid; rw [wrap_add2, wrap_add]
                    by_cases hq : wrap64 (wrap64 (wrap64 (usedZ Ss Ts B.os B.ls[m].tm B.ls[m].re) + wrap64 (outZ B.ps B.ls[m].tm B.ls[m].re)) + B.ls[m].fr) = B.ls[m].mo
                    · have HT : Hid (sumOne Ss Ts B B.ls[m] = true) := by unfold Hid; rw [HQ.out, ← HV.out]; exact decide_eq_true hq
                      have hd : (wrap64 (wrap64 (wrap64 (usedZ Ss Ts B.os B.ls[m].tm B.ls[m].re) + wrap64 (outZ B.ps B.ls[m].tm B.ls[m].re)) + B.ls[m].fr) != B.ls[m].mo) = false := by simp [hq]
                      clear hq
                      refine wp_region_class (Up W1) (by kernel_rfl) (by kernel_rfl) ((Below.refl _ _).drew) ?_
                      repeat (go_big_quiet_step (
                        first
                        | (go_at_call 112; rename_i X; exact (specUsed_any lo _ _ _ _ Ss Ms Ts B.os B.now B.tick B.given _ _ _ (HL.out.below (HB1.out.trans (X.h.mono HB1.out.size))) (HK.out.below (HB1.out.trans (X.h.mono HB1.out.size))).obs HN.out _ _ _ _ _ _ _ _ _).mono fun _ _ h => ⟨h.1, Up.next X h.2⟩)
                        | (go_at_call 113; rename_i X; exact (l5Out_any lo _ _ _ _ B _ _ _ (HK.out.below (HB1.out.trans (X.h.mono HB1.out.size)))).mono fun _ _ h => ⟨h.1, Up.next X h.2⟩)))
                      refine wpQuiet_nil ?_
                      intro wn hw
                      obtain ⟨X, hX⟩ := hw
                      have HWN : Below W1.heap.size W1 wn := by rw [hX]; exact X.h
                      clear hX X xs xn l0 l1 l2 x0 x1 x2 x3 x4 x5 x6 y0 y1 y2 y3
                      go_wp2
                      go_meet
                      exact ⟨congrArg Value.bool (by rw [HT.out]; rfl), HWN⟩
                    · have HT : Hid (sumOne Ss Ts B B.ls[m] = false) := by unfold Hid; rw [HQ.out, ← HV.out]; exact decide_eq_false hq
                      have hd : (wrap64 (wrap64 (wrap64 (usedZ Ss Ts B.os B.ls[m].tm B.ls[m].re) + wrap64 (outZ B.ps B.ls[m].tm B.ls[m].re)) + B.ls[m].fr) != B.ls[m].mo) = true := by simp [hq]
                      clear hq
                      refine wp_region_class (Up W1) (by kernel_rfl) (by kernel_rfl) ((Below.refl _ _).drew) ?_
                      repeat (go_big_quiet_step (
                        first
                        | (go_at_call 112; rename_i X; exact (specUsed_any lo _ _ _ _ Ss Ms Ts B.os B.now B.tick B.given _ _ _ (HL.out.below (HB1.out.trans (X.h.mono HB1.out.size))) (HK.out.below (HB1.out.trans (X.h.mono HB1.out.size))).obs HN.out _ _ _ _ _ _ _ _ _).mono fun _ _ h => ⟨h.1, Up.next X h.2⟩)
                        | (go_at_call 113; rename_i X; exact (l5Out_any lo _ _ _ _ B _ _ _ (HK.out.below (HB1.out.trans (X.h.mono HB1.out.size)))).mono fun _ _ h => ⟨h.1, Up.next X h.2⟩)))
                      refine wpQuiet_nil ?_
                      intro wn hw
                      obtain ⟨X, hX⟩ := hw
                      have HWN : Below W1.heap.size W1 wn := by rw [hX]; exact X.h
                      clear hX X xs xn l0 l1 l2 x0 x1 x2 x3 x4 x5 x6 y0 y1 y2 y3
                      go_wp2
                      go_meet
                      exact ⟨congrArg Value.bool (by rw [HT.out]; rfl), HWN⟩
                  case rest =>
                    obtain ⟨hc160, hwn⟩ := hcut
                    have HW2 := hide hwn
                    have HB2 : Hid (Below w.heap.size w wc) := HB1.out.trans (HW2.out.mono HB1.out.size)
                    clear hwn
                    cases hsm : sumOne Ss Ts B B.ls[m] with
                    | false =>
                      have HN : Hid (lpsB Ss Ts B = false) := lps_s (all_no hlt hsm)
                      rw [hsm] at hc160
                      subst hc160
                      go_wp2
                      go_ret
                      exact ⟨ret_bool HN.out.symm, HB2.out⟩
                    | true =>
                      have HSM := hide hsm
                      rw [hsm] at hc160
                      subst hc160
                      go_wp2
                      go_roundw
                      case rel => exact ⟨m + 1, by go_num, by omega, HB2.out, HX1.out.on HW2.out, HY1.out.on HW2.out, step_all HA.out hlt HLE.out, step_ris HS.out HR.out, step_all HU.out hlt HSM.out⟩
                      case measure => simp [intOf]; omega
        · have HT : Hid (lpsB Ss Ts B = true) := lps_yes (ledgers_yes hll (fun j hj => HA.out j hj (by omega)) (fun j hj => HS.out j (by omega))) HPT.out (all_yes (fun j hj => HU.out j hj (by omega)))
          go_wp2
          go_ret
          exact ⟨ret_bool HT.out.symm, HBr.out⟩
end
end Go.Proofs.YthfdfdlojfdckaaGreat

