import Derived.Test.YthfdfdlojfdckaaGreatVHB
import Derived.Test.YthfdfdlojfdckaaGreatVTE
import Derived.Test.YthfdfdlojfdckaaGreatVBOG
import Derived.Test.YthfdfdlojfdckaaGreatVB2
import Derived.Test.YthfdfdlojfdckaaGreatVA1
import Derived.Test.YthfdfdlojfdckaaGreatVTD
import Derived.Test.YthfdfdlojfdckaaGreatVBBL
import Derived.Test.YthfdfdlojfdckaaGreatVHA
import Derived.Test.YthfdfdlojfdckaaGreatVBLP
import Derived.Test.YthfdfdlojfdckaaGreatVTA
import Derived.Test.YthfdfdlojfdckaaGreatVDA
import Derived.Test.YthfdfdlojfdckaaGreatVLA
import Derived.Test.YthfdfdlojfdckaaGreatVTB
namespace Go.Proofs.YthfdfdlojfdckaaGreat
open Go.RowKit Go.Deep

def gnB (given : Int) (g : Gr) : Bool := inB 1 given g.nu && nameB g.tw && emptyOrName g.gb && ruleB g.ru
def grantsB (B : Bk) : Bool := decide (B.gs.length ≤ 24) && risB cGrs B.gs && B.gs.all (gnB B.given)
def leB (Ts : List Tm) (x : Le) : Bool := hasT Ts x.tm && nameB x.re && inB 0 1000000 x.mo && inB 0 x.mo x.fr
def ledgersB (Ts : List Tm) (Ls : List Le) : Bool := decide (Ls.length ≤ 10) && risB cLes Ls && Ls.all (leB Ts)
def puB (B : Bk) (p : Pu) : Bool := B.ls.any (ledIs p.tm p.re) && nameB p.dr && inB 1 1000000 p.am && inB B.tick (B.tick + 10) p.un
def pursesB (B : Bk) : Bool := decide (B.ps.length ≤ 24) && risB cPus B.ps && B.ps.all (puB B)
theorem all_no {X : Type} {L : List X} {f : X → Bool} {k : Nat} (hk : k < L.length) (h : f L[k] = false) : L.all f = false := by
  rw [List.all_eq_false]
  exact ⟨L[k], List.getElem_mem hk, by simp [h]⟩
theorem all_yes {X : Type} {L : List X} {f : X → Bool} (h : ∀ i (h : i < L.length), f L[i] = true) : L.all f = true := by
  rw [List.all_eq_true]
  intro x hx
  obtain ⟨i, hi, rfl⟩ := List.getElem_of_mem hx
  exact h i hi
theorem step_all {X : Type} {L : List X} {f : X → Bool} {k : Nat} (hall : ∀ j (h : j < L.length), j < k → f L[j] = true) (hk : k < L.length) (h : f L[k] = true) : ∀ j (h : j < L.length), j < k + 1 → f L[j] = true := fun j hj hjk => by
  by_cases e : j = k
  · subst e; exact h
  · exact hall j hj (by omega)
theorem placeT_neg (Ts : List Tm) (s : ByteArray) : decide (placeT Ts s < 0) = !hasT Ts s := by
  rw [hasT_eq]
  unfold placeT
  by_cases h : plT Ts s < Ts.length
  · simp [h]
  · simp [h]

section
variable (lo : Nat) (ov gv lv pv : Value) (B : Bk) (w : World)

set_option maxRecDepth 20000 in
set_option maxHeartbeats 4000000 in
theorem implGrants_any (h : BookAt lo w ov gv lv pv B) :
    Calls Tryz.prog 120 #[.agg #[.int .i64 B.now, .int .i64 B.tick, .int .i64 B.given, ov, gv, lv, pv]] w fun e w' => e = .returned (.bool (grantsB B)) ∧ Below w.heap.size w w' := by
  have HG := hide h.grs
  obtain ⟨a0, k0, rfl⟩ := h.obs.form
  obtain ⟨a1, k1, rfl⟩ := h.grs.form
  obtain ⟨a2, k2, rfl⟩ := h.les.form
  obtain ⟨a3, k3, rfl⟩ := h.pus.form
  have HI : Hid (grantsB B = (decide (B.gs.length ≤ 24) && risB cGrs B.gs && B.gs.all (gnB B.given))) := rfl
  clear h
  by_cases hl : B.gs.length ≤ 24
  case neg =>
    have HE : Hid (grantsB B = false) := by unfold Hid; rw [HI.out, decide_eq_false hl]; rfl
    have hgt : decide ((24 : Int) < (B.gs.length : Int)) = true := by simp; omega
    go_enter Tryz.func120, Tryz.ntmps120
    go_wp2
    go_ret
    exact ⟨ret_bool HE.out.symm, one_al _ _⟩
  have hgt : decide ((24 : Int) < (B.gs.length : Int)) = false := by simp; omega
  go_enter Tryz.func120, Tryz.ntmps120
  go_wp2_with fail
  generalize hWa : w.alloc _ = Wa
  have HB : Hid (Below w.heap.size w Wa) := by rw [← hWa]; exact one_al w _
  have HX : Hid (Box Wa w.heap.size #[.int .i64 B.now, .int .i64 B.tick, .int .i64 B.given, .slice a0 B.os.length k0, .slice a1 B.gs.length k1, .slice a2 B.ls.length k2, .slice a3 B.ps.length k3]) := by rw [← hWa]; exact Box.new _ _ _ _ rfl
  clear hWa
  refine (ascGrs_any lo _ B.gs _ (HG.out.below HB.out)).mono ?_
  rintro e w1 ⟨rfl, hb1⟩
  have HB1 : Hid (Below w.heap.size w w1) := HB.out.trans (hb1.mono HB.out.size)
  have HX1 := hide (HX.out.on hb1)
  clear hb1 HB HX
  cases hr : risB cGrs B.gs with
  | false =>
    have HE : Hid (grantsB B = false) := by unfold Hid; rw [HI.out, hr, decide_eq_true hl]; rfl
    go_wp2
    go_ret
    exact ⟨ret_bool HE.out.symm, HB1.out⟩
  | true =>
    have HE : Hid (grantsB B = B.gs.all (gnB B.given)) := by unfold Hid; rw [HI.out, hr, decide_eq_true hl]; rfl
    have x4 := HX1.out.cell 4
    simp at x4
    go_wp2
    clear x4
    go_loopw [18] (fun i wr => ∃ k : Nat, i = .int .i64 k ∧ k ≤ B.gs.length ∧ Below w.heap.size w wr ∧ Box wr w.heap.size #[.int .i64 B.now, .int .i64 B.tick, .int .i64 B.given, .slice a0 B.os.length k0, .slice a1 B.gs.length k1, .slice a2 B.ls.length k2, .slice a3 B.ps.length k3] ∧ ∀ j (h : j < B.gs.length), j < k → gnB B.given B.gs[j] = true) (fun i _ => B.gs.length - (intOf i).toNat)
    case atStart => exact ⟨0, rfl, Nat.zero_le _, HB1.out, HX1.out, fun j _ h => by omega⟩
    case round =>
      obtain ⟨k, rfl, hk, hb, hx, hall⟩ := hrel
      have HBr := hide hb
      have HXr := hide hx
      have HA := hide hall
      clear hb hx hall
      by_cases hlt : k < B.gs.length
      · obtain ⟨b, off, rfl, hbw, -, hc⟩ := HG.out.full' (by omega)
        obtain ⟨hs, vv0, hcell, hv0⟩ := hc k hlt
        obtain ⟨c0, c1, c2, c3, c4, c5, c6⟩ := hcell.below HBr.out hbw
        have HV := hide hv0
        have HZ := hide hs
        obtain ⟨va, vcap, rfl⟩ := hv0.form
        have HQ : Hid (gnB B.given B.gs[k] = (inB 1 B.given B.gs[k].nu && nameB B.gs[k].tw && emptyOrName B.gs[k].gb && ruleB B.gs[k].ru)) := rfl
        have x2 := HXr.out.cell 2
        simp at x2
        have xlt := HXr.out.lt
        have x2 : ∀ o, (wr.alloc o).cell? ⟨w.heap.size, 2, none⟩ = some (.int .i64 B.given) := fun o => (cell_alloc_lt _ _ _ _ xlt).trans x2
        have HBA : ∀ o, Hid (Below w.heap.size w (wr.alloc o)) := fun o => HBr.out.trans ((one_al _ _).mono HBr.out.size)
        have s0 := hs.s0
        have s1 := hs.s1
        clear hc hcell hv0 hs xlt
        cases h1 : inB 1 B.given B.gs[k].nu with
        | false =>
          have HN : Hid (grantsB B = false) := by unfold Hid; rw [HE.out]; exact all_no hlt (by rw [HQ.out, h1]; rfl)
          go_wp2_with (first | (go_at_call 99; refine (within_any _ _ _ _).mono ?_; rintro e w' ⟨rfl, rfl⟩))
          go_ret
          exact ⟨ret_bool HN.out.symm, (HBA _).out⟩
        | true =>
          cases h2 : nameB B.gs[k].tw with
          | false =>
            have HN : Hid (grantsB B = false) := by unfold Hid; rw [HE.out]; exact all_no hlt (by rw [HQ.out, h1, h2]; rfl)
            go_wp2_with (first | (go_at_call 99; refine (within_any _ _ _ _).mono ?_; rintro e w' ⟨rfl, rfl⟩) | (go_at_call 98; refine (isName_any _ _ s0).mono ?_; rintro e w' ⟨rfl, rfl⟩))
            go_ret
            exact ⟨ret_bool HN.out.symm, (HBA _).out⟩
          | true =>
            cases h3 : emptyOrName B.gs[k].gb with
            | false =>
              have HN : Hid (grantsB B = false) := by unfold Hid; rw [HE.out]; exact all_no hlt (by rw [HQ.out, h1, h2, h3]; rfl)
              go_wp2_with (first | (go_at_call 99; refine (within_any _ _ _ _).mono ?_; rintro e w' ⟨rfl, rfl⟩) | (go_at_call 98; refine (isName_any _ _ s0).mono ?_; rintro e w' ⟨rfl, rfl⟩) | (go_at_call 153; refine (emptyOrName_any _ _ s1).mono ?_; rintro e w' ⟨rfl, rfl⟩))
              go_ret
              exact ⟨ret_bool HN.out.symm, (HBA _).out⟩
            | true =>
              have HRZ : Hid (RuSize B.gs[k].ru) := ⟨HZ.out.s2, HZ.out.s3, HZ.out.s4⟩
              go_wp2_with (first | (go_at_call 99; refine (within_any _ _ _ _).mono ?_; rintro e w' ⟨rfl, rfl⟩) | (go_at_call 98; refine (isName_any _ _ s0).mono ?_; rintro e w' ⟨rfl, rfl⟩) | (go_at_call 153; refine (emptyOrName_any _ _ s1).mono ?_; rintro e w' ⟨rfl, rfl⟩))
              refine (implRule_any lo B.gs[k].ru _ _ ((HV.out.below HBr.out).below (one_al _ _)) HRZ.out).mono ?_
              rintro e w2 ⟨rfl, hb2⟩
              have HB2 : Hid (Below w.heap.size w w2) := (HBA _).out.trans (hb2.mono (HBA _).out.size)
              have HX2 := hide ((HXr.out.on (one_al _ _)).on hb2)
              clear hb2
              cases h4 : ruleB B.gs[k].ru with
              | false =>
                have HN : Hid (grantsB B = false) := by unfold Hid; rw [HE.out]; exact all_no hlt (by rw [HQ.out, h1, h2, h3, h4]; rfl)
                go_wp2
                go_ret
                exact ⟨ret_bool HN.out.symm, HB2.out⟩
              | true =>
                have HT : Hid (gnB B.given B.gs[k] = true) := by unfold Hid; rw [HQ.out, h1, h2, h3, h4]; rfl
                go_wp2
                go_roundw
                case rel => exact ⟨k + 1, by go_num, by omega, HB2.out, HX2.out, step_all HA.out hlt HT.out⟩
                case measure => simp [intOf]; omega
      · have HT : Hid (grantsB B = true) := by unfold Hid; rw [HE.out]; exact all_yes (fun i hi => HA.out i hi (by omega))
        go_wp2
        go_ret
        exact ⟨ret_bool HT.out.symm, HBr.out⟩

set_option maxRecDepth 20000 in
set_option maxHeartbeats 4000000 in
theorem implPurses_any (h : BookAt lo w ov gv lv pv B) (hn : B.ls.length ≤ 1048576) (hrl : risB cLes B.ls = true) (ht : inB 0 1000000 B.tick = true) :
    Calls Tryz.prog 122 #[.agg #[.int .i64 B.now, .int .i64 B.tick, .int .i64 B.given, ov, gv, lv, pv]] w fun e w' => e = .returned (.bool (pursesB B)) ∧ Below w.heap.size w w' := by
  have HG := hide h.pus
  have HL := hide h.les
  have HRL := hide hrl
  obtain ⟨a0, k0, rfl⟩ := h.obs.form
  obtain ⟨a1, k1, rfl⟩ := h.grs.form
  obtain ⟨a2, k2, rfl⟩ := h.les.form
  obtain ⟨a3, k3, rfl⟩ := h.pus.form
  have HI : Hid (pursesB B = (decide (B.ps.length ≤ 24) && risB cPus B.ps && B.ps.all (puB B))) := rfl
  have ht0 : 0 ≤ B.tick ∧ B.tick ≤ 1000000 := by unfold inB at ht; exact of_decide_eq_true ht
  clear h hrl ht
  by_cases hl : B.ps.length ≤ 24
  case neg =>
    have HE : Hid (pursesB B = false) := by unfold Hid; rw [HI.out, decide_eq_false hl]; rfl
    have hgt : decide ((24 : Int) < (B.ps.length : Int)) = true := by simp; omega
    go_enter Tryz.func122, Tryz.ntmps122
    go_wp2
    go_ret
    exact ⟨ret_bool HE.out.symm, one_al _ _⟩
  have hgt : decide ((24 : Int) < (B.ps.length : Int)) = false := by simp; omega
  go_enter Tryz.func122, Tryz.ntmps122
  go_wp2_with fail
  generalize hWa : w.alloc _ = Wa
  have HB : Hid (Below w.heap.size w Wa) := by rw [← hWa]; exact one_al w _
  have HX : Hid (Box Wa w.heap.size #[.int .i64 B.now, .int .i64 B.tick, .int .i64 B.given, .slice a0 B.os.length k0, .slice a1 B.gs.length k1, .slice a2 B.ls.length k2, .slice a3 B.ps.length k3]) := by rw [← hWa]; exact Box.new _ _ _ _ rfl
  clear hWa
  refine (ascPus_any lo _ B.ps _ (HG.out.below HB.out)).mono ?_
  rintro e w1 ⟨rfl, hb1⟩
  have HB1 : Hid (Below w.heap.size w w1) := HB.out.trans (hb1.mono HB.out.size)
  have HX1 := hide (HX.out.on hb1)
  clear hb1 HB HX
  cases hr : risB cPus B.ps with
  | false =>
    have HE : Hid (pursesB B = false) := by unfold Hid; rw [HI.out, hr, decide_eq_true hl]; rfl
    go_wp2
    go_ret
    exact ⟨ret_bool HE.out.symm, HB1.out⟩
  | true =>
    have HE : Hid (pursesB B = B.ps.all (puB B)) := by unfold Hid; rw [HI.out, hr, decide_eq_true hl]; rfl
    have x4 := HX1.out.cell 6
    simp at x4
    go_wp2
    clear x4
    go_loopw [20] (fun i wr => ∃ k : Nat, i = .int .i64 k ∧ k ≤ B.ps.length ∧ Below w.heap.size w wr ∧ Box wr w.heap.size #[.int .i64 B.now, .int .i64 B.tick, .int .i64 B.given, .slice a0 B.os.length k0, .slice a1 B.gs.length k1, .slice a2 B.ls.length k2, .slice a3 B.ps.length k3] ∧ ∀ j (h : j < B.ps.length), j < k → puB B B.ps[j] = true) (fun i _ => B.ps.length - (intOf i).toNat)
    case atStart => exact ⟨0, rfl, Nat.zero_le _, HB1.out, HX1.out, fun j _ h => by omega⟩
    case round =>
      obtain ⟨k, rfl, hk, hb, hx, hall⟩ := hrel
      have HBr := hide hb
      have HXr := hide hx
      have HA := hide hall
      clear hb hx hall
      by_cases hlt : k < B.ps.length
      · obtain ⟨b, off, rfl, hbw, -, hc⟩ := HG.out.full' (by omega)
        obtain ⟨hs, hcell⟩ := hc k hlt
        obtain ⟨c0, c1, c2, c3, c4⟩ := hcell.below HBr.out hbw
        have HZ := hide hs
        have HQ : Hid (puB B B.ps[k] = (B.ls.any (ledIs B.ps[k].tm B.ps[k].re) && nameB B.ps[k].dr && inB 1 1000000 B.ps[k].am && inB B.tick (B.tick + 10) B.ps[k].un)) := rfl
        have x5 := HXr.out.cell 5
        simp at x5
        have xlt := HXr.out.lt
        have x5 : ∀ o, (wr.alloc o).cell? ⟨w.heap.size, 5, none⟩ = some (.slice a2 B.ls.length k2) := fun o => (cell_alloc_lt _ _ _ _ xlt).trans x5
        have HBA : ∀ o, Hid (Below w.heap.size w (wr.alloc o)) := fun o => HBr.out.trans ((one_al _ _).mono HBr.out.size)
        clear hc hcell hs xlt
        go_wp2_with fail
        generalize hWb : wr.alloc _ = Wb
        have HBb : Hid (Below w.heap.size w Wb) := by rw [← hWb]; exact (HBA _).out
        have HXb : Hid (Box Wb w.heap.size #[.int .i64 B.now, .int .i64 B.tick, .int .i64 B.given, .slice a0 B.os.length k0, .slice a1 B.gs.length k1, .slice a2 B.ls.length k2, .slice (some ⟨b, off, none⟩) B.ps.length k3]) := by rw [← hWb]; exact HXr.out.on (one_al _ _)
        have HYb : Hid (Box Wb wr.heap.size #[.string B.ps[k].dr, .string B.ps[k].tm, .string B.ps[k].re, .int .i64 B.ps[k].am, .int .i64 B.ps[k].un]) := by rw [← hWb]; exact Box.new _ _ _ _ rfl
        clear hWb x5 HBA
        refine (ledgerPlace_any lo _ B.ls _ _ _ (HL.out.below HBb.out) hn HRL.out).mono ?_
        rintro e w2 ⟨⟨p, -, rfl⟩, hb2⟩
        have HB2 : Hid (Below w.heap.size w w2) := HBb.out.trans (hb2.mono HBb.out.size)
        have HX2 := hide (HXb.out.on hb2)
        have HY2 := hide (HYb.out.on hb2)
        have s0 := HZ.out.s0
        have y0 := HY2.out.cell 0
        have y3 := HY2.out.cell 3
        have y4 := HY2.out.cell 4
        have z1 := HX2.out.cell 1
        simp at y0 y3 y4 z1
        clear hb2 HBb HXb HYb
        cases h1 : B.ls.any (ledIs B.ps[k].tm B.ps[k].re) with
        | false =>
          have HN : Hid (pursesB B = false) := by unfold Hid; rw [HE.out]; exact all_no hlt (by rw [HQ.out, h1]; rfl)
          go_wp2
          go_ret
          exact ⟨ret_bool HN.out.symm, HB2.out⟩
        | true =>
          cases h2 : nameB B.ps[k].dr with
          | false =>
            have HN : Hid (pursesB B = false) := by unfold Hid; rw [HE.out]; exact all_no hlt (by rw [HQ.out, h1, h2]; rfl)
            go_wp2_with (go_at_call 98; refine (isName_any _ _ s0).mono ?_; rintro e w' ⟨rfl, rfl⟩)
            go_ret
            exact ⟨ret_bool HN.out.symm, HB2.out⟩
          | true =>
            cases h3 : inB 1 1000000 B.ps[k].am with
            | false =>
              have HN : Hid (pursesB B = false) := by unfold Hid; rw [HE.out]; exact all_no hlt (by rw [HQ.out, h1, h2, h3]; rfl)
              go_wp2_with (first | (go_at_call 98; refine (isName_any _ _ s0).mono ?_; rintro e w' ⟨rfl, rfl⟩) | (go_at_call 99; refine (within_any _ _ _ _).mono ?_; rintro e w' ⟨rfl, rfl⟩))
              go_ret
              exact ⟨ret_bool HN.out.symm, HB2.out⟩
            | true =>
              cases h4 : inB B.tick (B.tick + 10) B.ps[k].un with
              | false =>
                have HN : Hid (pursesB B = false) := by unfold Hid; rw [HE.out]; exact all_no hlt (by rw [HQ.out, h1, h2, h3, h4]; rfl)
                go_wp2_with (first | (go_at_call 98; refine (isName_any _ _ s0).mono ?_; rintro e w' ⟨rfl, rfl⟩) | (go_at_call 99; refine (within_any _ _ _ _).mono ?_; rintro e w' ⟨rfl, rfl⟩))
                go_ret
                exact ⟨ret_bool HN.out.symm, HB2.out⟩
              | true =>
                have HT : Hid (puB B B.ps[k] = true) := by unfold Hid; rw [HQ.out, h1, h2, h3, h4]; rfl
                go_wp2_with (first | (go_at_call 98; refine (isName_any _ _ s0).mono ?_; rintro e w' ⟨rfl, rfl⟩) | (go_at_call 99; refine (within_any _ _ _ _).mono ?_; rintro e w' ⟨rfl, rfl⟩))
                go_roundw
                case rel => exact ⟨k + 1, by go_num, by omega, HB2.out, HX2.out, step_all HA.out hlt HT.out⟩
                case measure => simp [intOf]; omega
      · have HT : Hid (pursesB B = true) := by unfold Hid; rw [HE.out]; exact all_yes (fun i hi => HA.out i hi (by omega))
        go_wp2
        go_ret
        exact ⟨ret_bool HT.out.symm, HBr.out⟩
end

section
variable (lo : Nat) (sv mv tv lv : Value) (Ss : List Sh) (Ms : List Md) (Ts : List Tm) (Ls : List Le) (w : World)

set_option maxRecDepth 20000 in
set_option maxHeartbeats 4000000 in
theorem implLedgers_any (h : LawAt lo w sv mv tv Ss Ms Ts) (hl : LesAt lo w lv Ls) :
    Calls Tryz.prog 121 #[.agg #[sv, mv, tv], lv] w fun e w' => e = .returned (.bool (ledgersB Ts Ls)) ∧ Below w.heap.size w w' := by
  have HL := hide h
  have HG := hide hl
  obtain ⟨sa, sc, rfl⟩ := h.shs.form
  obtain ⟨ma, mc, rfl⟩ := h.mds.form
  obtain ⟨ta, tc, rfl⟩ := h.tms.form
  obtain ⟨la, lc, rfl⟩ := hl.form
  have HI : Hid (ledgersB Ts Ls = (decide (Ls.length ≤ 10) && risB cLes Ls && Ls.all (leB Ts))) := rfl
  clear h hl
  by_cases hl : Ls.length ≤ 10
  case neg =>
    have HE : Hid (ledgersB Ts Ls = false) := by unfold Hid; rw [HI.out, decide_eq_false hl]; rfl
    have hgt : decide ((10 : Int) < (Ls.length : Int)) = true := by simp; omega
    go_enter Tryz.func121, Tryz.ntmps121
    go_wp2
    go_ret
    exact ⟨ret_bool HE.out.symm, one_al _ _⟩
  have hgt : decide ((10 : Int) < (Ls.length : Int)) = false := by simp; omega
  go_enter Tryz.func121, Tryz.ntmps121
  go_wp2_with fail
  generalize hWa : w.alloc _ = Wa
  have HB : Hid (Below w.heap.size w Wa) := by rw [← hWa]; exact one_al w _
  have HX : Hid (Box Wa w.heap.size #[.slice sa Ss.length sc, .slice ma Ms.length mc, .slice ta Ts.length tc]) := by rw [← hWa]; exact Box.new _ _ _ _ rfl
  clear hWa
  refine (ascLes_any lo _ Ls _ (HG.out.below HB.out)).mono ?_
  rintro e w1 ⟨rfl, hb1⟩
  have HB1 : Hid (Below w.heap.size w w1) := HB.out.trans (hb1.mono HB.out.size)
  have HX1 := hide (HX.out.on hb1)
  clear hb1 HB HX
  cases hr : risB cLes Ls with
  | false =>
    have HE : Hid (ledgersB Ts Ls = false) := by unfold Hid; rw [HI.out, hr, decide_eq_true hl]; rfl
    go_wp2
    go_ret
    exact ⟨ret_bool HE.out.symm, HB1.out⟩
  | true =>
    have HE : Hid (ledgersB Ts Ls = Ls.all (leB Ts)) := by unfold Hid; rw [HI.out, hr, decide_eq_true hl]; rfl
    go_wp2
    go_loopw [17] (fun i wr => ∃ k : Nat, i = .int .i64 k ∧ k ≤ Ls.length ∧ Below w.heap.size w wr ∧ Box wr w.heap.size #[.slice sa Ss.length sc, .slice ma Ms.length mc, .slice ta Ts.length tc] ∧ ∀ j (h : j < Ls.length), j < k → leB Ts Ls[j] = true) (fun i _ => Ls.length - (intOf i).toNat)
    case atStart => exact ⟨0, rfl, Nat.zero_le _, HB1.out, HX1.out, fun j _ h => by omega⟩
    case round =>
      obtain ⟨k, rfl, hk, hb, hx, hall⟩ := hrel
      have HBr := hide hb
      have HXr := hide hx
      have HA := hide hall
      clear hb hx hall
      by_cases hlt : k < Ls.length
      · obtain ⟨b, off, rfl, hbw, -, hc⟩ := HG.out.full' (by omega)
        obtain ⟨hs, hcell⟩ := hc k hlt
        obtain ⟨c0, c1, c2, c3⟩ := hcell.below HBr.out hbw
        have HZ := hide hs
        have HQ : Hid (leB Ts Ls[k] = (hasT Ts Ls[k].tm && nameB Ls[k].re && inB 0 1000000 Ls[k].mo && inB 0 Ls[k].mo Ls[k].fr)) := rfl
        have HP := hide (placeT_neg Ts Ls[k].tm)
        have x5 := HXr.out.cell 2
        simp at x5
        have xlt := HXr.out.lt
        have x5 : ∀ o, (wr.alloc o).cell? ⟨w.heap.size, 2, none⟩ = some (.slice ta Ts.length tc) := fun o => (cell_alloc_lt _ _ _ _ xlt).trans x5
        have HBA : ∀ o, Hid (Below w.heap.size w (wr.alloc o)) := fun o => HBr.out.trans ((one_al _ _).mono HBr.out.size)
        clear hc hcell hs xlt
        go_wp2_with fail
        generalize hWb : wr.alloc _ = Wb
        have HBb : Hid (Below w.heap.size w Wb) := by rw [← hWb]; exact (HBA _).out
        have HXb : Hid (Box Wb w.heap.size #[.slice sa Ss.length sc, .slice ma Ms.length mc, .slice ta Ts.length tc]) := by rw [← hWb]; exact HXr.out.on (one_al _ _)
        have HYb : Hid (Box Wb wr.heap.size #[.string Ls[k].tm, .string Ls[k].re, .int .i64 Ls[k].mo, .int .i64 Ls[k].fr]) := by rw [← hWb]; exact Box.new _ _ _ _ rfl
        clear hWb x5 HBA
        refine (teamPlace_any lo _ Ts _ _ (HL.out.below HBb.out).tms).mono ?_
        rintro e w2 ⟨rfl, hb2⟩
        have HB2 : Hid (Below w.heap.size w w2) := HBb.out.trans (hb2.mono HBb.out.size)
        have HX2 := hide (HXb.out.on hb2)
        have HY2 := hide (HYb.out.on hb2)
        have s1 := HZ.out.s1
        have y1 := HY2.out.cell 1
        have y2 := HY2.out.cell 2
        have y3 := HY2.out.cell 3
        simp at y1 y2 y3
        clear hb2 HBb HXb HYb
        cases h1 : hasT Ts Ls[k].tm with
        | false =>
          have HN : Hid (ledgersB Ts Ls = false) := by unfold Hid; rw [HE.out]; exact all_no hlt (by rw [HQ.out, h1]; rfl)
          have hd : decide (placeT Ts Ls[k].tm < 0) = true := by rw [HP.out, h1]; rfl
          go_wp2
          go_ret
          exact ⟨ret_bool HN.out.symm, HB2.out⟩
        | true =>
          have hd : decide (placeT Ts Ls[k].tm < 0) = false := by rw [HP.out, h1]; rfl
          cases h2 : nameB Ls[k].re with
          | false =>
            have HN : Hid (ledgersB Ts Ls = false) := by unfold Hid; rw [HE.out]; exact all_no hlt (by rw [HQ.out, h1, h2]; rfl)
            go_wp2_with (go_at_call 98; refine (isName_any _ _ s1).mono ?_; rintro e w' ⟨rfl, rfl⟩)
            go_ret
            exact ⟨ret_bool HN.out.symm, HB2.out⟩
          | true =>
            cases h3 : inB 0 1000000 Ls[k].mo with
            | false =>
              have HN : Hid (ledgersB Ts Ls = false) := by unfold Hid; rw [HE.out]; exact all_no hlt (by rw [HQ.out, h1, h2, h3]; rfl)
              go_wp2_with (first | (go_at_call 98; refine (isName_any _ _ s1).mono ?_; rintro e w' ⟨rfl, rfl⟩) | (go_at_call 99; refine (within_any _ _ _ _).mono ?_; rintro e w' ⟨rfl, rfl⟩))
              go_ret
              exact ⟨ret_bool HN.out.symm, HB2.out⟩
            | true =>
              cases h4 : inB 0 Ls[k].mo Ls[k].fr with
              | false =>
                have HN : Hid (ledgersB Ts Ls = false) := by unfold Hid; rw [HE.out]; exact all_no hlt (by rw [HQ.out, h1, h2, h3, h4]; rfl)
                go_wp2_with (first | (go_at_call 98; refine (isName_any _ _ s1).mono ?_; rintro e w' ⟨rfl, rfl⟩) | (go_at_call 99; refine (within_any _ _ _ _).mono ?_; rintro e w' ⟨rfl, rfl⟩))
                go_ret
                exact ⟨ret_bool HN.out.symm, HB2.out⟩
              | true =>
                have HT : Hid (leB Ts Ls[k] = true) := by unfold Hid; rw [HQ.out, h1, h2, h3, h4]; rfl
                go_wp2_with (first | (go_at_call 98; refine (isName_any _ _ s1).mono ?_; rintro e w' ⟨rfl, rfl⟩) | (go_at_call 99; refine (within_any _ _ _ _).mono ?_; rintro e w' ⟨rfl, rfl⟩))
                go_roundw
                case rel => exact ⟨k + 1, by go_num, by omega, HB2.out, HX2.out, step_all HA.out hlt HT.out⟩
                case measure => simp [intOf]; omega
      · have HT : Hid (ledgersB Ts Ls = true) := by unfold Hid; rw [HE.out]; exact all_yes (fun i hi => HA.out i hi (by omega))
        go_wp2
        go_ret
        exact ⟨ret_bool HT.out.symm, HBr.out⟩
end
end Go.Proofs.YthfdfdlojfdckaaGreat

