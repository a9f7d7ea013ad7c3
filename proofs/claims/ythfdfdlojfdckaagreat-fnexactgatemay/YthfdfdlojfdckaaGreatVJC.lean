import Derived.Test.YthfdfdlojfdckaaGreatVJ7
import Derived.Test.YthfdfdlojfdckaaGreatVHS
import Derived.Test.YthfdfdlojfdckaaGreatVH8
import Derived.Test.YthfdfdlojfdckaaGreatVOPB
import Derived.Test.YthfdfdlojfdckaaGreatVBBL
import Derived.Test.YthfdfdlojfdckaaGreatVTF
import Derived.Deep.AppendLies
import Derived.Test.YthfdfdlojfdckaaGreatVTE
import Derived.Test.YthfdfdlojfdckaaGreatVB1
import Derived.Test.YthfdfdlojfdckaaGreatVTA
import Derived.Test.YthfdfdlojfdckaaGreatVH7
import Derived.Test.YthfdfdlojfdckaaGreatVJB
import Derived.Test.YthfdfdlojfdckaaGreatVHB
import Derived.Test.YthfdfdlojfdckaaGreatVP1
import Derived.Test.YthfdfdlojfdckaaGreatVA1
import Derived.Test.YthfdfdlojfdckaaGreatVBLP
import Derived.Test.YthfdfdlojfdckaaGreatVHA
import Derived.Test.YthfdfdlojfdckaaGreatVBOG
import Derived.Test.YthfdfdlojfdckaaGreatVNZ
import Derived.Test.YthfdfdlojfdckaaGreatVDA
import Derived.Test.YthfdfdlojfdckaaGreatVLA
import Derived.Test.YthfdfdlojfdckaaGreatVH9
import Derived.Test.YthfdfdlojfdckaaGreatVTD
namespace Go.Proofs.YthfdfdlojfdckaaGreat
open Go.RowKit Go.Deep Go.Maps

/-- what is asked of a book under an ok law -/
def soundB (Ss : List Sh) (Ts : List Tm) (B : Bk) (FF : Nat → List ByteArray) : Bool := timesB B && (objectsB Ss Ts B FF && (grantsB B && lpsB Ss Ts B))
def bookB (Ss : List Sh) (Ms : List Md) (Ts : List Tm) (B : Bk) (FF : Nat → List ByteArray) : Bool := lawB Ss Ms Ts && soundB Ss Ts B FF
theorem law_mends {Ss : List Sh} {Ms : List Md} {Ts : List Tm} (h : lawB Ss Ms Ts = true) : mendsB Ss Ms = true := by
  unfold lawB at h
  rw [Bool.and_eq_true] at h
  exact h.1
theorem times_tick {B : Bk} (h : timesB B = true) : inB 0 1000000 B.tick = true := by
  unfold timesB at h
  rw [Bool.and_eq_true, Bool.and_eq_true] at h
  exact h.1.2
theorem ledgers_ris {Ts : List Tm} {Ls : List Le} (h : ledgersB Ts Ls = true) : risB cLes Ls = true := by
  unfold ledgersB at h
  rw [Bool.and_eq_true, Bool.and_eq_true] at h
  exact h.1.2
theorem ShapesTo.exists (Ss : List Sh) (Ms : List Md) (Os : List Ob) : ∃ FF, ShapesTo Ss Ms Os FF := by
  have h : ∀ i, ∃ F, ∀ (h : i < Os.length), ShapeTo Ss Ms Os[i].kd Os[i].vs F := fun i => by
    by_cases hi : i < Os.length
    · obtain ⟨F, hF⟩ := ShapeTo.exists Ss Ms Os[i].kd Os[i].vs
      exact ⟨F, fun _ => hF⟩
    · exact ⟨[], fun h => absurd h hi⟩
  exact ⟨fun i => (h i).choose, fun i hi => (h i).choose_spec hi⟩

section
variable (lo : Nat) (sv mv tv ov gv lv pv : Value) (Ss : List Sh) (Ms : List Md) (Ts : List Tm) (B : Bk) (FF : Nat → List ByteArray) (w : World)

set_option maxRecDepth 100000 in
set_option maxHeartbeats 8000000 in
theorem bookSound_any (hl : LawAt lo w sv mv tv Ss Ms Ts) (hmb : mendsB Ss Ms = true) (h : BookAt lo w ov gv lv pv B) (hn : BookSmall B) (hsh : ShapesTo Ss Ms B.os FF) :
    Calls Tryz.prog 75 #[.agg #[sv, mv, tv], .agg #[.int .i64 B.now, .int .i64 B.tick, .int .i64 B.given, ov, gv, lv, pv]] w fun e w' => e = .returned (.bool (soundB Ss Ts B FF)) ∧ Below w.heap.size w w' := by
  have HL := hide hl
  have HK := hide h
  have HN := hide hn
  have HSH := hide hsh
  have HMB := hide hmb
  have HLL : Hid (B.ls.length ≤ 1048576) := hn.2.2.1.1
  have HI : Hid (soundB Ss Ts B FF = (timesB B && (objectsB Ss Ts B FF && (grantsB B && (ledgersB Ts B.ls && (pursesB B && sumsB Ss Ts B)))))) := rfl
  obtain ⟨sa, sc, rfl⟩ := hl.shs.form
  obtain ⟨ma, mc, rfl⟩ := hl.mds.form
  obtain ⟨ta, tc, rfl⟩ := hl.tms.form
  obtain ⟨a0, k0, rfl⟩ := h.obs.form
  obtain ⟨a1, k1, rfl⟩ := h.grs.form
  obtain ⟨a2, k2, rfl⟩ := h.les.form
  obtain ⟨a3, k3, rfl⟩ := h.pus.form
  clear hl hmb h hn hsh
  go_enter Tryz.func75, Tryz.ntmps75
  go_wp2_with fail
  generalize hWa : (World.alloc (w.alloc _) _) = w0
  have HB0 : Hid (Below w.heap.size w w0) := by rw [← hWa]; exact (one_al w _).alloc (by simp) _
  have HX0 : Hid (Box w0 w.heap.size #[.slice sa Ss.length sc, .slice ma Ms.length mc, .slice ta Ts.length tc]) := by rw [← hWa]; exact (Box.new _ _ _ _ rfl).on (one_al _ _)
  have HY0 : Hid (Box w0 (w.heap.size + 1) #[.int .i64 B.now, .int .i64 B.tick, .int .i64 B.given, .slice a0 B.os.length k0, .slice a1 B.gs.length k1, .slice a2 B.ls.length k2, .slice a3 B.ps.length k3]) := by rw [← hWa]; exact Box.new _ _ _ _ (by simp)
  clear hWa
  refine (timesOk_any lo _ _ _ _ B _ (HK.out.below HB0.out)).mono ?_
  rintro e w1 ⟨rfl, hb⟩
  have HB1 : Hid (Below w.heap.size w w1) := HB0.out.trans (hb.mono HB0.out.size)
  have HX1 := hide (HX0.out.on hb)
  have HY1 := hide (HY0.out.on hb)
  clear hb HB0 HX0 HY0
  cases h0 : timesB B with
  | false =>
    have HE : Hid (soundB Ss Ts B FF = false) := by unfold Hid; rw [HI.out, h0]; rfl
    go_wp2
    go_ret
    exact ⟨ret_bool HE.out.symm, HB1.out⟩
  | true =>
    have l0 := HX1.out.cell 0
    have l1 := HX1.out.cell 1
    have l2 := HX1.out.cell 2
    have b0 := HY1.out.cell 0
    have b1 := HY1.out.cell 1
    have b2 := HY1.out.cell 2
    have b3 := HY1.out.cell 3
    have b4 := HY1.out.cell 4
    have b5 := HY1.out.cell 5
    have b6 := HY1.out.cell 6
    simp at l0 l1 l2 b0 b1 b2 b3 b4 b5 b6
    go_wp2_with fail
    clear l0 l1 l2 b0 b1 b2 b3 b4 b5 b6
    refine (implObjects_any lo _ _ _ _ _ _ _ Ss Ms Ts B FF _ (HL.out.below HB1.out) HMB.out (HK.out.below HB1.out) HN.out.1 HSH.out).mono ?_
    rintro e w2 ⟨rfl, hb⟩
    have HB2 : Hid (Below w.heap.size w w2) := HB1.out.trans (hb.mono HB1.out.size)
    have HX2 := hide (HX1.out.on hb)
    have HY2 := hide (HY1.out.on hb)
    clear hb HB1 HX1 HY1
    cases h1 : objectsB Ss Ts B FF with
    | false =>
      have HE : Hid (soundB Ss Ts B FF = false) := by unfold Hid; rw [HI.out, h0, h1]; rfl
      go_wp2
      go_ret
      exact ⟨ret_bool HE.out.symm, HB2.out⟩
    | true =>
      have l0 := HX2.out.cell 0
      have l1 := HX2.out.cell 1
      have l2 := HX2.out.cell 2
      have b0 := HY2.out.cell 0
      have b1 := HY2.out.cell 1
      have b2 := HY2.out.cell 2
      have b3 := HY2.out.cell 3
      have b4 := HY2.out.cell 4
      have b5 := HY2.out.cell 5
      have b6 := HY2.out.cell 6
      simp at l0 l1 l2 b0 b1 b2 b3 b4 b5 b6
      go_wp2_with fail
      clear l0 l1 l2 b0 b1 b2 b3 b4 b5 b6
      refine (implGrants_any lo _ _ _ _ B _ (HK.out.below HB2.out)).mono ?_
      rintro e w3 ⟨rfl, hb⟩
      have HB3 : Hid (Below w.heap.size w w3) := HB2.out.trans (hb.mono HB2.out.size)
      have HX3 := hide (HX2.out.on hb)
      have HY3 := hide (HY2.out.on hb)
      clear hb HB2 HX2 HY2
      cases h2 : grantsB B with
      | false =>
        have HE : Hid (soundB Ss Ts B FF = false) := by unfold Hid; rw [HI.out, h0, h1, h2]; rfl
        go_wp2
        go_ret
        exact ⟨ret_bool HE.out.symm, HB3.out⟩
      | true =>
        have l0 := HX3.out.cell 0
        have l1 := HX3.out.cell 1
        have l2 := HX3.out.cell 2
        have b0 := HY3.out.cell 0
        have b1 := HY3.out.cell 1
        have b2 := HY3.out.cell 2
        have b3 := HY3.out.cell 3
        have b4 := HY3.out.cell 4
        have b5 := HY3.out.cell 5
        have b6 := HY3.out.cell 6
        simp at l0 l1 l2 b0 b1 b2 b3 b4 b5 b6
        go_wp2_with fail
        clear l0 l1 l2 b0 b1 b2 b3 b4 b5 b6
        refine (implLedgers_any lo _ _ _ _ Ss Ms Ts B.ls _ (HL.out.below HB3.out) (HK.out.below HB3.out).les).mono ?_
        rintro e w4 ⟨rfl, hb⟩
        have HB4 : Hid (Below w.heap.size w w4) := HB3.out.trans (hb.mono HB3.out.size)
        have HX4 := hide (HX3.out.on hb)
        have HY4 := hide (HY3.out.on hb)
        clear hb HB3 HX3 HY3
        cases h3 : ledgersB Ts B.ls with
        | false =>
          have HE : Hid (soundB Ss Ts B FF = false) := by unfold Hid; rw [HI.out, h0, h1, h2, h3]; rfl
          go_wp2
          go_ret
          exact ⟨ret_bool HE.out.symm, HB4.out⟩
        | true =>
          have l0 := HX4.out.cell 0
          have l1 := HX4.out.cell 1
          have l2 := HX4.out.cell 2
          have b0 := HY4.out.cell 0
          have b1 := HY4.out.cell 1
          have b2 := HY4.out.cell 2
          have b3 := HY4.out.cell 3
          have b4 := HY4.out.cell 4
          have b5 := HY4.out.cell 5
          have b6 := HY4.out.cell 6
          simp at l0 l1 l2 b0 b1 b2 b3 b4 b5 b6
          go_wp2_with fail
          clear l0 l1 l2 b0 b1 b2 b3 b4 b5 b6
          refine (implPurses_any lo _ _ _ _ B _ (HK.out.below HB4.out) HLL.out (ledgers_ris h3) (times_tick h0)).mono ?_
          rintro e w5 ⟨rfl, hb⟩
          have HB5 : Hid (Below w.heap.size w w5) := HB4.out.trans (hb.mono HB4.out.size)
          have HX5 := hide (HX4.out.on hb)
          have HY5 := hide (HY4.out.on hb)
          clear hb HB4 HX4 HY4
          cases h4 : pursesB B with
          | false =>
            have HE : Hid (soundB Ss Ts B FF = false) := by unfold Hid; rw [HI.out, h0, h1, h2, h3, h4]; rfl
            go_wp2
            go_ret
            exact ⟨ret_bool HE.out.symm, HB5.out⟩
          | true =>
            have l0 := HX5.out.cell 0
            have l1 := HX5.out.cell 1
            have l2 := HX5.out.cell 2
            have b0 := HY5.out.cell 0
            have b1 := HY5.out.cell 1
            have b2 := HY5.out.cell 2
            have b3 := HY5.out.cell 3
            have b4 := HY5.out.cell 4
            have b5 := HY5.out.cell 5
            have b6 := HY5.out.cell 6
            simp at l0 l1 l2 b0 b1 b2 b3 b4 b5 b6
            go_wp2_with fail
            clear l0 l1 l2 b0 b1 b2 b3 b4 b5 b6
            refine (implSums_any lo _ _ _ _ _ _ _ Ss Ms Ts B _ (HL.out.below HB5.out) (HK.out.below HB5.out) HN.out).mono ?_
            rintro e w6 ⟨rfl, hb⟩
            have HB6 : Hid (Below w.heap.size w w6) := HB5.out.trans (hb.mono HB5.out.size)
            have HX6 := hide (HX5.out.on hb)
            have HY6 := hide (HY5.out.on hb)
            clear hb HB5 HX5 HY5
            have HE : Hid (soundB Ss Ts B FF = sumsB Ss Ts B) := by unfold Hid; rw [HI.out, h0, h1, h2, h3, h4]; rfl
            go_wp2
            go_ret
            exact ⟨ret_bool HE.out.symm, HB6.out⟩

set_option maxRecDepth 100000 in
set_option maxHeartbeats 4000000 in
theorem implBook_any (hl : LawAt lo w sv mv tv Ss Ms Ts) (h : BookAt lo w ov gv lv pv B) (hn : BookSmall B) (hsh : ShapesTo Ss Ms B.os FF) :
    Calls Tryz.prog 36 #[.agg #[sv, mv, tv], .agg #[.int .i64 B.now, .int .i64 B.tick, .int .i64 B.given, ov, gv, lv, pv]] w fun e w' => e = .returned (.bool (bookB Ss Ms Ts B FF)) ∧ Below w.heap.size w w' := by
  have HL := hide hl
  have HK := hide h
  have HN := hide hn
  have HSH := hide hsh
  have HI : Hid (bookB Ss Ms Ts B FF = (lawB Ss Ms Ts && soundB Ss Ts B FF)) := rfl
  obtain ⟨sa, sc, rfl⟩ := hl.shs.form
  obtain ⟨ma, mc, rfl⟩ := hl.mds.form
  obtain ⟨ta, tc, rfl⟩ := hl.tms.form
  obtain ⟨a0, k0, rfl⟩ := h.obs.form
  obtain ⟨a1, k1, rfl⟩ := h.grs.form
  obtain ⟨a2, k2, rfl⟩ := h.les.form
  obtain ⟨a3, k3, rfl⟩ := h.pus.form
  clear hl h hn hsh
  go_enter Tryz.func36, Tryz.ntmps36
  go_wp2_with fail
  generalize hWa : (World.alloc (w.alloc _) _) = w0
  have HB0 : Hid (Below w.heap.size w w0) := by rw [← hWa]; exact (one_al w _).alloc (by simp) _
  have HX0 : Hid (Box w0 w.heap.size #[.slice sa Ss.length sc, .slice ma Ms.length mc, .slice ta Ts.length tc]) := by rw [← hWa]; exact (Box.new _ _ _ _ rfl).on (one_al _ _)
  have HY0 : Hid (Box w0 (w.heap.size + 1) #[.int .i64 B.now, .int .i64 B.tick, .int .i64 B.given, .slice a0 B.os.length k0, .slice a1 B.gs.length k1, .slice a2 B.ls.length k2, .slice a3 B.ps.length k3]) := by rw [← hWa]; exact Box.new _ _ _ _ (by simp)
  clear hWa
  refine (implLawOk_any lo _ _ _ Ss Ms Ts _ (HL.out.below HB0.out)).mono ?_
  rintro e w1 ⟨rfl, hb⟩
  have HB1 : Hid (Below w.heap.size w w1) := HB0.out.trans (hb.mono HB0.out.size)
  have HX1 := hide (HX0.out.on hb)
  have HY1 := hide (HY0.out.on hb)
  clear hb HB0 HX0 HY0
  cases h0 : lawB Ss Ms Ts with
  | false =>
    have HE : Hid (bookB Ss Ms Ts B FF = false) := by unfold Hid; rw [HI.out, h0]; rfl
    go_wp2
    go_ret
    exact ⟨ret_bool HE.out.symm, HB1.out⟩
  | true =>
    have HE : Hid (bookB Ss Ms Ts B FF = soundB Ss Ts B FF) := by unfold Hid; rw [HI.out, h0]; rfl
    have l0 := HX1.out.cell 0
    have l1 := HX1.out.cell 1
    have l2 := HX1.out.cell 2
    have b0 := HY1.out.cell 0
    have b1 := HY1.out.cell 1
    have b2 := HY1.out.cell 2
    have b3 := HY1.out.cell 3
    have b4 := HY1.out.cell 4
    have b5 := HY1.out.cell 5
    have b6 := HY1.out.cell 6
    simp at l0 l1 l2 b0 b1 b2 b3 b4 b5 b6
    go_wp2_with fail
    clear l0 l1 l2 b0 b1 b2 b3 b4 b5 b6
    refine (bookSound_any lo _ _ _ _ _ _ _ Ss Ms Ts B FF _ (HL.out.below HB1.out) (law_mends h0) (HK.out.below HB1.out) HN.out HSH.out).mono ?_
    rintro e w2 ⟨rfl, hb⟩
    have HB2 : Hid (Below w.heap.size w w2) := HB1.out.trans (hb.mono HB1.out.size)
    go_wp2
    go_ret
    exact ⟨ret_bool HE.out.symm, HB2.out⟩

set_option maxRecDepth 100000 in
set_option maxHeartbeats 8000000 in
theorem specBook_any (hl : LawAt lo w sv mv tv Ss Ms Ts) (h : BookAt lo w ov gv lv pv B) (hn : BookSmall B) (hsh : ShapesTo Ss Ms B.os FF) :
    Calls Tryz.prog 27 #[.agg #[sv, mv, tv], .agg #[.int .i64 B.now, .int .i64 B.tick, .int .i64 B.given, ov, gv, lv, pv]] w fun e w' => e = .returned (.bool (bookB Ss Ms Ts B FF)) ∧ Below w.heap.size w w' := by
  have HL := hide hl
  have HK := hide h
  have HN := hide hn
  have HSH := hide hsh
  have HI : Hid (bookB Ss Ms Ts B FF = (lawB Ss Ms Ts && (timesB B && (objectsB Ss Ts B FF && (grantsB B && lpsB Ss Ts B))))) := rfl
  have HTI : Hid (timesB B = (inB 0 1000000 B.now && inB 0 1000000 B.tick && inB 0 B.now B.given)) := rfl
  obtain ⟨sa, sc, rfl⟩ := hl.shs.form
  obtain ⟨ma, mc, rfl⟩ := hl.mds.form
  obtain ⟨ta, tc, rfl⟩ := hl.tms.form
  obtain ⟨a0, k0, rfl⟩ := h.obs.form
  obtain ⟨a1, k1, rfl⟩ := h.grs.form
  obtain ⟨a2, k2, rfl⟩ := h.les.form
  obtain ⟨a3, k3, rfl⟩ := h.pus.form
  clear hl h hn hsh
  go_enter Tryz.func27, Tryz.ntmps27
  go_wp2_with fail
  generalize hWa : (World.alloc (w.alloc _) _) = w0
  have HB0 : Hid (Below w.heap.size w w0) := by rw [← hWa]; exact (one_al w _).alloc (by simp) _
  have HX0 : Hid (Box w0 w.heap.size #[.slice sa Ss.length sc, .slice ma Ms.length mc, .slice ta Ts.length tc]) := by rw [← hWa]; exact (Box.new _ _ _ _ rfl).on (one_al _ _)
  have HY0 : Hid (Box w0 (w.heap.size + 1) #[.int .i64 B.now, .int .i64 B.tick, .int .i64 B.given, .slice a0 B.os.length k0, .slice a1 B.gs.length k1, .slice a2 B.ls.length k2, .slice a3 B.ps.length k3]) := by rw [← hWa]; exact Box.new _ _ _ _ (by simp)
  clear hWa
  refine (specLawOk_any lo _ _ _ Ss Ms Ts _ (HL.out.below HB0.out)).mono ?_
  rintro e w1 ⟨rfl, hb⟩
  have HB1 : Hid (Below w.heap.size w w1) := HB0.out.trans (hb.mono HB0.out.size)
  have HX1 := hide (HX0.out.on hb)
  have HY1 := hide (HY0.out.on hb)
  clear hb HB0 HX0 HY0
  have b0 := HY1.out.cell 0
  have b1 := HY1.out.cell 1
  have b2 := HY1.out.cell 2
  simp at b0 b1 b2
  cases h0 : lawB Ss Ms Ts with
  | false =>
    have HE : Hid (bookB Ss Ms Ts B FF = false) := by unfold Hid; rw [HI.out, h0]; rfl
    go_wp2
    go_ret
    exact ⟨ret_bool HE.out.symm, HB1.out⟩
  | true =>
    cases i0 : inB 0 1000000 B.now with
    | false =>
      have HE : Hid (bookB Ss Ms Ts B FF = false) := by unfold Hid; rw [HI.out, h0, HTI.out, i0]; rfl
      go_wp2_with (go_at_call 62; refine (in_any _ _ _ _).mono ?_; rintro e w' ⟨rfl, rfl⟩)
      go_ret
      exact ⟨ret_bool HE.out.symm, HB1.out⟩
    | true =>
      cases i1 : inB 0 1000000 B.tick with
      | false =>
        have HE : Hid (bookB Ss Ms Ts B FF = false) := by unfold Hid; rw [HI.out, h0, HTI.out, i0, i1]; rfl
        go_wp2_with (go_at_call 62; refine (in_any _ _ _ _).mono ?_; rintro e w' ⟨rfl, rfl⟩)
        go_ret
        exact ⟨ret_bool HE.out.symm, HB1.out⟩
      | true =>
        cases i2 : inB 0 B.now B.given with
        | false =>
          have HE : Hid (bookB Ss Ms Ts B FF = false) := by unfold Hid; rw [HI.out, h0, HTI.out, i0, i1, i2]; rfl
          go_wp2_with (go_at_call 62; refine (in_any _ _ _ _).mono ?_; rintro e w' ⟨rfl, rfl⟩)
          go_ret
          exact ⟨ret_bool HE.out.symm, HB1.out⟩
        | true =>
          have HT : Hid (timesB B = true) := by unfold Hid; rw [HTI.out, i0, i1, i2]; rfl
          have l0 := HX1.out.cell 0
          have l1 := HX1.out.cell 1
          have l2 := HX1.out.cell 2
          have b3 := HY1.out.cell 3
          have b4 := HY1.out.cell 4
          have b5 := HY1.out.cell 5
          have b6 := HY1.out.cell 6
          simp at l0 l1 l2 b3 b4 b5 b6
          go_wp2_with (go_at_call 62; refine (in_any _ _ _ _).mono ?_; rintro e w' ⟨rfl, rfl⟩)
          clear l0 l1 l2 b0 b1 b2 b3 b4 b5 b6
          refine (specObjects_any lo _ _ _ _ _ _ _ Ss Ms Ts B FF _ (HL.out.below HB1.out) (law_mends h0) (HK.out.below HB1.out) HN.out.1 HSH.out).mono ?_
          rintro e w2 ⟨rfl, hb⟩
          have HB2 : Hid (Below w.heap.size w w2) := HB1.out.trans (hb.mono HB1.out.size)
          have HX2 := hide (HX1.out.on hb)
          have HY2 := hide (HY1.out.on hb)
          clear hb HB1 HX1 HY1
          cases h1 : objectsB Ss Ts B FF with
          | false =>
            have HE : Hid (bookB Ss Ms Ts B FF = false) := by unfold Hid; rw [HI.out, h0, HT.out, h1]; rfl
            go_wp2
            go_ret
            exact ⟨ret_bool HE.out.symm, HB2.out⟩
          | true =>
            have l0 := HX2.out.cell 0
            have l1 := HX2.out.cell 1
            have l2 := HX2.out.cell 2
            have b0 := HY2.out.cell 0
            have b1 := HY2.out.cell 1
            have b2 := HY2.out.cell 2
            have b3 := HY2.out.cell 3
            have b4 := HY2.out.cell 4
            have b5 := HY2.out.cell 5
            have b6 := HY2.out.cell 6
            simp at l0 l1 l2 b0 b1 b2 b3 b4 b5 b6
            go_wp2_with fail
            clear l0 l1 l2 b0 b1 b2 b3 b4 b5 b6
            refine (specGrants_any lo _ _ _ _ B _ (HK.out.below HB2.out)).mono ?_
            rintro e w3 ⟨rfl, hb⟩
            have HB3 : Hid (Below w.heap.size w w3) := HB2.out.trans (hb.mono HB2.out.size)
            have HX3 := hide (HX2.out.on hb)
            have HY3 := hide (HY2.out.on hb)
            clear hb HB2 HX2 HY2
            cases h2 : grantsB B with
            | false =>
              have HE : Hid (bookB Ss Ms Ts B FF = false) := by unfold Hid; rw [HI.out, h0, HT.out, h1, h2]; rfl
              go_wp2
              go_ret
              exact ⟨ret_bool HE.out.symm, HB3.out⟩
            | true =>
              have l0 := HX3.out.cell 0
              have l1 := HX3.out.cell 1
              have l2 := HX3.out.cell 2
              have b0 := HY3.out.cell 0
              have b1 := HY3.out.cell 1
              have b2 := HY3.out.cell 2
              have b3 := HY3.out.cell 3
              have b4 := HY3.out.cell 4
              have b5 := HY3.out.cell 5
              have b6 := HY3.out.cell 6
              simp at l0 l1 l2 b0 b1 b2 b3 b4 b5 b6
              go_wp2_with fail
              clear l0 l1 l2 b0 b1 b2 b3 b4 b5 b6
              refine (specSums_any lo _ _ _ _ _ _ _ Ss Ms Ts B _ (HL.out.below HB3.out) (HK.out.below HB3.out) HN.out.1 (times_tick HT.out)).mono ?_
              rintro e w4 ⟨rfl, hb⟩
              have HB4 : Hid (Below w.heap.size w w4) := HB3.out.trans (hb.mono HB3.out.size)
              have HX4 := hide (HX3.out.on hb)
              have HY4 := hide (HY3.out.on hb)
              clear hb HB3 HX3 HY3
              have HE : Hid (bookB Ss Ms Ts B FF = lpsB Ss Ts B) := by unfold Hid; rw [HI.out, h0, HT.out, h1, h2]; rfl
              go_wp2
              go_ret
              exact ⟨ret_bool HE.out.symm, HB4.out⟩
end
end Go.Proofs.YthfdfdlojfdckaaGreat

namespace Go.Proofs.YthfdfdlojfdckaaGreat
open Go.RowKit Go.Deep

/-- a row of a call's own making, whatever lies in it -/
theorem owns_lt {base : Nat} {e : TypeId} {sz n : Nat} {W : World} {v : Value} {cs : List Value} (h : W.ownsRow base e sz v n cs) {g : Nat} (hg : v.ownBlock = some g) : g < W.heap.size ∧ base ≤ g := by
  rcases h.2 with ⟨hv, _⟩ | ⟨g', cap, cur, hv, h1, h2, _⟩
  · rw [hv] at hg; cases hg
  · rw [hv] at hg
    have e : g' = g := by simpa [Value.ownBlock] using hg
    subst e
    rcases Nat.lt_or_ge g' W.heap.size with h | h
    · exact ⟨h, h1⟩
    · rw [Array.getElem?_eq_none h] at h2; cases h2
theorem owns_below {base : Nat} {e : TypeId} {sz n : Nat} {W W' : World} {v : Value} {cs : List Value} (h : W.ownsRow base e sz v n cs) (hb : Below W.heap.size W W') : W'.ownsRow base e sz v n cs := by
  refine ⟨h.1, ?_⟩
  have hlt := fun g hg => @owns_lt base e sz n W v cs h g hg
  rcases h.2 with hv | ⟨g, cap, cur, hv, h1, h2, h3⟩
  · exact Or.inl hv
  · have hg := hlt g (by rw [hv]; rfl)
    exact Or.inr ⟨g, cap, cur, hv, h1, by rw [hb.block g hg.1]; exact h2, h3⟩
theorem owns_grown {base : Nat} {e : TypeId} {sz n : Nat} {W w' : World} {v : Value} {cs : List Value} (h : W.ownsRow base e sz v n cs) (hg : W.grownBy w' v.ownBlock) (hb : base ≤ W.heap.size) : Below base W w' := by
  have hlt := fun g hg => @owns_lt base e sz n W v cs h g hg
  exact ⟨hg.os, hg.tape, hg.output, hg.size, fun k hk => hg.block k (by omega) fun e => by have := (hlt k e.symm).2; omega⟩
theorem owns_form {base : Nat} {e : TypeId} {sz n : Nat} {W : World} {v : Value} {cs : List Value} (h : W.ownsRow base e sz v n cs) : ∃ a cap, v = .slice a n cap := by
  rcases h.2 with ⟨hv, hn⟩ | ⟨g, cap, cur, hv, _⟩
  · rw [hn]; exact ⟨_, _, hv⟩
  · exact ⟨_, _, hv⟩

theorem owns_made {base : Nat} (W : World) (g : Nat) (e : TypeId) (sz : Nat) (hg : W.heap.size = g) (hb : base ≤ g) : (W.alloc (.cells #[] e)).ownsRow base e sz (.slice (some ⟨g, 0, none⟩) 0 0) 0 [] := by
  subst hg
  exact World.ownsRow_made (base := base) (e := e) (size := sz) W #[] 0 hb (Nat.zero_le _) (by simp)
/-- the cells of rules -/
def rvs : List (Value × Ru) → List Value
  | [] => []
  | x :: L => x.1 :: .string x.2.kd :: .string x.2.tm :: .string x.2.pf :: rvs L
theorem rvs_at : ∀ (L : List (Value × Ru)) (i : Nat) (h : i < L.length), (rvs L)[i * 4]? = some L[i].1 ∧ (rvs L)[i * 4 + 1]? = some (.string L[i].2.kd) ∧ (rvs L)[i * 4 + 2]? = some (.string L[i].2.tm) ∧ (rvs L)[i * 4 + 3]? = some (.string L[i].2.pf)
  | [], i, h => by simp at h
  | x :: L, 0, _ => ⟨rfl, rfl, rfl, rfl⟩
  | x :: L, i + 1, h => by
    have := rvs_at L i (by simpa using h)
    rw [show (i + 1) * 4 = i * 4 + 1 + 1 + 1 + 1 by omega]
    exact this
theorem rvs_app : ∀ (A B : List (Value × Ru)), rvs (A ++ B) = rvs A ++ rvs B
  | [], B => rfl
  | x :: A, B => by simp only [List.cons_append, rvs, rvs_app A B]
/-- rules whose verbs lie in the memory of w, in a row of a call's own making in W -/
structure RuKept (base : Nat) (w W : World) (v : Value) (L : List (Value × Ru)) : Prop where
  own : W.ownsRow base 65 4 v L.length (rvs L)
  ints : ∀ x ∈ L, IntsIn 0 w x.1 x.2.vb ∧ RuSize x.2
theorem RuKept.below {base : Nat} {w W W' : World} {v : Value} {L : List (Value × Ru)} (h : RuKept base w W v L) (hb : Below W.heap.size W W') : RuKept base w W' v L := ⟨owns_below h.own hb, h.ints⟩
theorem RuKept.rus {base : Nat} {w W : World} {v : Value} {L : List (Value × Ru)} (h : RuKept base w W v L) (hb : Below w.heap.size w W) : RusAt 0 W v (L.map Prod.snd) := by
  by_cases hR : L = []
  · subst hR
    obtain ⟨a, cap, rfl⟩ := owns_form h.own
    exact Or.inl ⟨_, _, rfl, rfl⟩
  · rcases h.own.2 with ⟨_, hn⟩ | ⟨g, cap, cur, hv, h1, h2, h3, h4, _⟩
    · exact absurd (List.length_eq_zero_iff.1 hn) hR
    · have hl := owns_lt h.own (g := g) (by rw [hv]; rfl)
      have ho := h.own
      subst hv
      refine Or.inr ⟨g, 0, cap, by rw [List.length_map], by simpa using hR, by rw [List.length_map]; exact Nat.le_trans h3 h4, hl.1, by omega, by rw [List.length_map]; exact h3, fun i hi => ?_⟩
      have hi' : i < L.length := by simpa using hi
      obtain ⟨c0, c1, c2, c3⟩ := rvs_at L i hi'
      have hx := h.ints _ (List.getElem_mem hi')
      rw [List.getElem_map]
      have ce : ∀ j, j < 4 → W.cell? ⟨g, 0 + i * 4 + j, none⟩ = (rvs L)[i * 4 + j]? := fun j hj => by rw [Nat.zero_add]; exact ho.cellAt _ (by omega)
      exact ⟨hx.2, L[i].1, ⟨(ce 0 (by omega)).trans c0, (ce 1 (by omega)).trans c1, (ce 2 (by omega)).trans c2, (ce 3 (by omega)).trans c3⟩, hx.1.below hb⟩
theorem RuKept.snoc {base : Nat} {w W W' : World} {v v' : Value} {L : List (Value × Ru)} (h : RuKept base w W v L) {xv : Value} {r : Ru} (hx : IntsIn 0 w xv r.vb) (hz : RuSize r)
    (hown : W'.ownsRow base 65 4 v' (L.length + 1) (rvs L ++ [xv, .string r.kd, .string r.tm, .string r.pf])) : RuKept base w W' v' (L ++ [(xv, r)]) :=
  ⟨by rw [List.length_append, rvs_app]; exact hown, fun y hy => by
    rcases List.mem_append.1 hy with hy | hy
    · exact h.ints y hy
    · rw [List.mem_singleton.1 hy]; exact ⟨hx, hz⟩⟩
theorem cell_new4 (X : World) (g : Nat) (a b c d : Value) (t : TypeId) (hg : X.heap.size = g) : ∀ j x, [a, b, c, d][j]? = some x → (X.alloc (.cells #[a, b, c, d] t)).cell? ((⟨g, 0, none⟩ : Addr).add j) = some x := by
  intro j x hx
  subst hg
  rw [Go.WideShapes.add_plain, Nat.zero_add]
  match j, hx with
  | 0, hx => simpa using hx
  | 1, hx => simpa using hx
  | 2, hx => simpa using hx
  | 3, hx => simpa using hx
theorem four_oneCell (a : Option Addr) (n c : Nat) (s t r : ByteArray) : ∀ u ∈ [Value.slice a n c, .string s, .string t, .string r], u.oneCell' = true := fun u hu => by
  simp only [List.mem_cons, List.not_mem_nil, or_false] at hu
  rcases hu with rfl | rfl | rfl | rfl <;> rfl
theorem ruleInfo : (Tryz.prog.info? 65).map (fun i => (i.zero, i.size, i.bytes)) = some (some (.agg #[.slice none 0 0, .string ⟨#[]⟩, .string ⟨#[]⟩, .string ⟨#[]⟩]), 4, 72) := by kernel_rfl

/-- the rules of somebody's grants -/
def rulesTo (Gs : List Gr) (who : ByteArray) : List Ru := (Gs.filter (fun g => g.tw.toList == who.toList)).map Gr.ru
theorem rulesTo_yes {Gs : List Gr} {who : ByteArray} {k : Nat} (hk : k < Gs.length) (h : (Gs[k].tw.toList == who.toList) = true) : rulesTo (Gs.take (k + 1)) who = rulesTo (Gs.take k) who ++ [Gs[k].ru] := by
  unfold rulesTo
  rw [List.take_succ_eq_append_getElem hk, List.filter_append, List.map_append, List.filter_cons_of_pos (p := fun g : Gr => g.tw.toList == who.toList) h, List.filter_nil]
  rfl
theorem rulesTo_no {Gs : List Gr} {who : ByteArray} {k : Nat} (hk : k < Gs.length) (h : (Gs[k].tw.toList == who.toList) = false) : rulesTo (Gs.take (k + 1)) who = rulesTo (Gs.take k) who := by
  unfold rulesTo
  rw [List.take_succ_eq_append_getElem hk, List.filter_append, List.map_append, List.filter_cons_of_neg (by simp [h]), List.filter_nil, List.map_nil, List.append_nil]
theorem rulesTo_all {Gs : List Gr} {who : ByteArray} {k : Nat} (hk : Gs.length ≤ k) : rulesTo (Gs.take k) who = rulesTo Gs who := by rw [List.take_of_length_le hk]
theorem rulesTo_le {Gs : List Gr} {who : ByteArray} (k : Nat) : (rulesTo (Gs.take k) who).length ≤ k := by
  unfold rulesTo
  rw [List.length_map]
  exact Nat.le_trans (List.length_filter_le _ _) (by rw [List.length_take]; omega)

section
variable (gv : Value) (Gs : List Gr) (who : ByteArray) (w : World)

set_option maxRecDepth 20000 in
set_option maxHeartbeats 4000000 in
theorem rulesToI_any (hG : GrsAt 0 w gv Gs) (hmax : Gs.length ≤ 1048576) :
    Calls Tryz.prog 76 #[gv, .string who] w fun e w' => ∃ v, e = .returned v ∧ Below w.heap.size w w' ∧ RusAt 0 w' v (rulesTo Gs who) := by
  obtain ⟨i0, hi, hz0, hz1, hz2⟩ := info_parts ruleInfo
  have HI := hide (And.intro hi (And.intro hz0 (And.intro hz1 hz2)))
  clear hi hz0 hz1 hz2
  have HG := hide hG
  obtain ⟨a, cap, rfl⟩ := hG.form
  clear hG
  go_enter Tryz.func76, Tryz.ntmps76
  go_wp2
  go_loopw [5, 10] (fun v i wr => ∃ (k : Nat) (L : List (Value × Ru)), i = .int .i64 k ∧ k ≤ Gs.length ∧ Below w.heap.size w wr ∧ RuKept w.heap.size w wr v L ∧ L.map Prod.snd = rulesTo (Gs.take k) who) (fun _ i _ => Gs.length - (intOf i).toNat)
  case atStart => exact ⟨0, [], rfl, by omega, Below.refl _ _, ⟨World.ownsRow_nil _ _ _ _, fun x hx => absurd hx List.not_mem_nil⟩, by simp [rulesTo]⟩
  case round =>
    obtain ⟨k, L, rfl, hk, hb, hown, hL⟩ := hrel
    have HB := hide hb
    have HO := hide hown
    have HL := hide hL
    have hlen : L.length ≤ k := by rw [← List.length_map (f := Prod.snd), hL]; exact rulesTo_le k
    obtain ⟨va, vcap, rfl⟩ := owns_form hown.own
    clear hb hown hL
    by_cases hlt : k < Gs.length
    · obtain ⟨rb, ro, rfl, hrb, -, hrc⟩ := HG.out.full' (by omega)
      obtain ⟨hsz, qv, hcell, hqv⟩ := hrc k hlt
      have HSZ : Hid (RuSize Gs[k].ru) := ⟨hsz.s2, hsz.s3, hsz.s4⟩
      obtain ⟨c0, c1, c2, c3, c4, c5, c6⟩ := hcell.below HB.out hrb
      obtain ⟨qa, qcap, rfl⟩ := hqv.form
      have HQ := hide hqv
      clear hcell hqv hrc hsz
      cases he : (Gs[k].tw.toList == who.toList) with
      | true =>
        have HNX := hide (rulesTo_yes hlt he)
        go_wp2_with (at_builtin; refine wpList_append_lies _ rfl (.tmp 18) (.tmp 21) 124 rfl w.heap.size 65 i0 (.agg #[.slice none 0 0, .string ⟨#[]⟩, .string ⟨#[]⟩, .string ⟨#[]⟩]) 4 72 Tryz.underlying124 HI.out.1 HI.out.2.1 HI.out.2.2.1 HI.out.2.2.2 rfl (by decide) _ L.length (rvs L) rfl (HO.out.below ((one_al _ _).alloc (by simp) _)).own ⟨wr.heap.size + 1, 0, none⟩ 1 1 [.slice qa Gs[k].vb.length qcap, .string Gs[k].kd, .string Gs[k].tm, .string Gs[k].pf] rfl rfl (cell_new4 _ _ _ _ _ _ _ (by simp)) (four_oneCell _ _ _ _ _ _) (by decide) (by unfold maxLen; omega) (by omega) (by have := HB.out.size; simp; omega) _ rfl ?_; intro g cap1 w4 hown4 hgrow4 hat4 hlt4)
        go_roundw
        case rel => exact ⟨k + 1, _, by go_num, by omega, (HB.out.trans (((one_al wr _).alloc (by simp) _).mono HB.out.size)).trans (owns_grown (HO.out.below ((one_al _ _).alloc (by simp) _)).own hgrow4 (by have := HB.out.size; simp; omega)), HO.out.snoc (r := Gs[k].ru) HQ.out HSZ.out hown4, by rw [HNX.out, List.map_append, HL.out]; rfl⟩
        case measure => simp [intOf]; omega
      | false =>
        have HNX := hide (rulesTo_no hlt he)
        go_wp2
        go_roundw
        case rel => exact ⟨k + 1, L, by go_num, by omega, HB.out.trans ((one_al wr _).mono HB.out.size), HO.out.below (one_al _ _), by rw [HNX.out]; exact HL.out⟩
        case measure => simp [intOf]; omega
    · have HE : Hid (RusAt 0 wr (.slice va L.length vcap) (rulesTo Gs who)) := by
        have := HO.out.rus HB.out
        rw [HL.out, rulesTo_all (by omega)] at this
        exact this
      go_wp2
      go_ret
      exact ⟨_, rfl, HB.out, HE.out⟩
end

section
variable (gv ov lv pv : Value) (B : Bk) (who : ByteArray) (w : World)
set_option maxRecDepth 20000 in
set_option maxHeartbeats 4000000 in
theorem l8Rules_any (h : BookAt 0 w ov gv lv pv B) (hmax : B.gs.length ≤ 1048576) :
    Calls Tryz.prog 66 #[.agg #[.int .i64 B.now, .int .i64 B.tick, .int .i64 B.given, ov, gv, lv, pv], .string who] w fun e w' => ∃ v, e = .returned v ∧ Below w.heap.size w w' ∧ RusAt 0 w' v (rulesTo B.gs who) := by
  obtain ⟨i0, hi, hz0, hz1, hz2⟩ := info_parts ruleInfo
  have HI := hide (And.intro hi (And.intro hz0 (And.intro hz1 hz2)))
  clear hi hz0 hz1 hz2
  have HG := hide h.grs
  obtain ⟨a0, k0, rfl⟩ := h.obs.form
  obtain ⟨a1, k1, rfl⟩ := h.grs.form
  obtain ⟨a2, k2, rfl⟩ := h.les.form
  obtain ⟨a3, k3, rfl⟩ := h.pus.form
  clear h
  go_enter Tryz.func66, Tryz.ntmps66
  go_wp2
  generalize hWa : World.alloc (w.alloc _) _ = Wa
  have HB0 : Hid (Below w.heap.size w Wa) := by rw [← hWa]; exact (one_al w _).alloc (by simp) _
  have HX0 : Hid (Box Wa w.heap.size #[.int .i64 B.now, .int .i64 B.tick, .int .i64 B.given, .slice a0 B.os.length k0, .slice a1 B.gs.length k1, .slice a2 B.ls.length k2, .slice a3 B.ps.length k3]) := by rw [← hWa]; exact (Box.new _ _ _ _ rfl).on (one_al _ _)
  have HO0 : Hid (RuKept (w.heap.size + 1) w Wa (.slice (some ⟨w.heap.size + 1, 0, none⟩) 0 0) []) := by
    rw [← hWa]
    exact ⟨owns_made _ _ _ 4 (by simp) (by omega), fun x hx => absurd hx List.not_mem_nil⟩
  clear hWa
  go_loopw [5, 6] (fun v i wr => ∃ (k : Nat) (L : List (Value × Ru)), i = .int .i64 k ∧ k ≤ B.gs.length ∧ Below w.heap.size w wr ∧ Box wr w.heap.size #[.int .i64 B.now, .int .i64 B.tick, .int .i64 B.given, .slice a0 B.os.length k0, .slice a1 B.gs.length k1, .slice a2 B.ls.length k2, .slice a3 B.ps.length k3] ∧ RuKept (w.heap.size + 1) w wr v L ∧ L.map Prod.snd = rulesTo (B.gs.take k) who) (fun _ i _ => B.gs.length - (intOf i).toNat)
  case atStart => exact ⟨0, [], rfl, by omega, HB0.out, HX0.out, HO0.out, by simp [rulesTo]⟩
  case round =>
    obtain ⟨k, L, rfl, hk, hb, hx, hown, hL⟩ := hrel
    have HB := hide hb
    have HX := hide hx
    have HO := hide hown
    have HL := hide hL
    have hlen : L.length ≤ k := by rw [← List.length_map (f := Prod.snd), hL]; exact rulesTo_le k
    obtain ⟨va, vcap, rfl⟩ := owns_form hown.own
    have x4 := hx.cell 4
    simp at x4
    clear hb hx hown hL HB0 HX0 HO0
    by_cases hlt : k < B.gs.length
    · obtain ⟨rb, ro, rfl, hrb, -, hrc⟩ := HG.out.full' (by omega)
      obtain ⟨hsz, qv, hcell, hqv⟩ := hrc k hlt
      have HSZ : Hid (RuSize B.gs[k].ru) := ⟨hsz.s2, hsz.s3, hsz.s4⟩
      obtain ⟨c0, c1, c2, c3, c4, c5, c6⟩ := hcell.below HB.out hrb
      obtain ⟨qa, qcap, rfl⟩ := hqv.form
      have HQ := hide hqv
      clear hcell hqv hrc hsz
      cases he : (B.gs[k].tw.toList == who.toList) with
      | true =>
        have HNX := hide (rulesTo_yes hlt he)
        go_wp2_with (at_builtin; refine wpList_append_lies _ rfl (.tmp 23) (.tmp 30) 124 rfl (w.heap.size + 1) 65 i0 (.agg #[.slice none 0 0, .string ⟨#[]⟩, .string ⟨#[]⟩, .string ⟨#[]⟩]) 4 72 Tryz.underlying124 HI.out.1 HI.out.2.1 HI.out.2.2.1 HI.out.2.2.2 rfl (by decide) _ L.length (rvs L) rfl (HO.out.below (one_al _ _)).own ⟨wr.heap.size, 0, none⟩ 1 1 [.slice qa B.gs[k].vb.length qcap, .string B.gs[k].kd, .string B.gs[k].tm, .string B.gs[k].pf] rfl rfl (cell_new4 _ _ _ _ _ _ _ (by simp)) (four_oneCell _ _ _ _ _ _) (by decide) (by unfold maxLen; omega) (by omega) (by have := HX.out.lt; simp; omega) _ rfl ?_; intro g cap1 w4 hown4 hgrow4 hat4 hlt4)
        have HG4 := hide (owns_grown (HO.out.below (one_al _ _)).own hgrow4 (by have := HX.out.lt; simp; omega))
        have HX4 := hide ((HX.out.on (one_al _ _)).below HG4.out (by omega))
        go_roundw
        case rel => exact ⟨k + 1, _, by go_num, by omega, (HB.out.trans ((one_al wr _).mono HB.out.size)).trans (HG4.out.mono (by omega)), HX4.out, HO.out.snoc (r := B.gs[k].ru) HQ.out HSZ.out hown4, by rw [HNX.out, List.map_append, HL.out]; rfl⟩
        case measure => simp [intOf]; omega
      | false =>
        have HNX := hide (rulesTo_no hlt he)
        go_wp2
        go_roundw
        case rel => exact ⟨k + 1, L, by go_num, by omega, HB.out, HX.out, HO.out, by rw [HNX.out]; exact HL.out⟩
        case measure => simp [intOf]; omega
    · have HE : Hid (RusAt 0 wr (.slice va L.length vcap) (rulesTo B.gs who)) := by
        have := HO.out.rus HB.out
        rw [HL.out, rulesTo_all (by omega)] at this
        exact this
      go_wp2
      go_ret
      exact ⟨_, rfl, HB.out, HE.out⟩
end
end Go.Proofs.YthfdfdlojfdckaaGreat

namespace Go.Proofs.YthfdfdlojfdckaaGreat
open Go.RowKit Go.Deep

/-! who may do what -/
abbrev HeldT (W0 : World) (b1 : Nat) (cs1 : Array Value) (b2 : Nat) (cs2 : Array Value) (b3 : Nat) (cs3 : Array Value) (W : World) : Prop :=
  (∀ i, W.cell? ⟨b1, i, none⟩ = cs1[i]?) ∧ (∀ i, W.cell? ⟨b2, i, none⟩ = cs2[i]?) ∧ (∀ i, W.cell? ⟨b3, i, none⟩ = cs3[i]?) ∧ Hid (Below W0.heap.size W0 W ∧ b1 < W0.heap.size ∧ b2 < W0.heap.size ∧ b3 < W0.heap.size)
theorem HeldT.drew {W0 : World} {b1 b2 b3 : Nat} {cs1 cs2 cs3 : Array Value} (h1 : Box W0 b1 cs1) (h2 : Box W0 b2 cs2) (h3 : Box W0 b3 cs3) : HeldT W0 b1 cs1 b2 cs2 b3 cs3 W0.drew := ⟨h1.cell, h2.cell, h3.cell, (Below.refl _ _).drew, h1.lt, h2.lt, h3.lt⟩
theorem HeldT.on {W0 W W' : World} {b1 b2 b3 : Nat} {cs1 cs2 cs3 : Array Value} (h : HeldT W0 b1 cs1 b2 cs2 b3 cs3 W) (hb : Below W.heap.size W W') : HeldT W0 b1 cs1 b2 cs2 b3 cs3 W' := by
  obtain ⟨h1, h2, h3, h4, h5, h6, h7⟩ := h
  have := h4.size
  exact ⟨fun i => (hb.cell (p := ⟨b1, i, none⟩) (by simp only []; omega)).trans (h1 i), fun i => (hb.cell (p := ⟨b2, i, none⟩) (by simp only []; omega)).trans (h2 i), fun i => (hb.cell (p := ⟨b3, i, none⟩) (by simp only []; omega)).trans (h3 i), bt h4 hb, h5, h6, h7⟩

section
variable (sv mv tv ov gv lv pv : Value) (Ss : List Sh) (Ms : List Md) (Ts : List Tm) (B : Bk) (FF : Nat → List ByteArray) (who : ByteArray) (v : Int) (kind team name : ByteArray) (w : World)

def mayR (Ts : List Tm) (Rs : List Ru) (v : Int) (kind team name : ByteArray) : Bool := Rs.any (fun r => givesP Ts r kind team name v)
def mayB (Ss : List Sh) (Ms : List Md) (Ts : List Tm) (B : Bk) (FF : Nat → List ByteArray) (who : ByteArray) (v : Int) (kind team name : ByteArray) : Bool := bookB Ss Ms Ts B FF && mayR Ts (rulesTo B.gs who) v kind team name
theorem book_rules {Ss : List Sh} {Ms : List Md} {Ts : List Tm} {B : Bk} {FF : Nat → List ByteArray} (h : bookB Ss Ms Ts B FF = true) (who : ByteArray) : ∀ r ∈ rulesTo B.gs who, ruleB r = true := by
  have hg : grantsB B = true := by
    unfold bookB soundB at h
    simp only [Bool.and_eq_true] at h
    exact h.2.2.2.1
  have ha : ∀ g ∈ B.gs, ruleB g.ru = true := fun g hgm => by
    unfold grantsB at hg
    rw [Bool.and_eq_true, List.all_eq_true] at hg
    have := hg.2 g hgm
    unfold gnB at this
    rw [Bool.and_eq_true] at this
    exact this.2
  intro r hr
  unfold rulesTo at hr
  obtain ⟨g, hgm, rfl⟩ := List.mem_map.1 hr
  exact ha g (List.mem_filter.1 hgm).1
theorem mayR_yes {Ts : List Tm} {Rs : List Ru} {v : Int} {kind team name : ByteArray} {k : Nat} (hk : k < Rs.length) (h : givesP Ts Rs[k] kind team name v = true) : mayR Ts Rs v kind team name = true := by
  unfold mayR
  rw [List.any_eq_true]
  exact ⟨Rs[k], List.getElem_mem hk, h⟩
theorem mayR_no {Ts : List Tm} {Rs : List Ru} {v : Int} {kind team name : ByteArray} (h : ∀ j (hj : j < Rs.length), givesP Ts Rs[j] kind team name v = false) : mayR Ts Rs v kind team name = false := by
  unfold mayR
  rw [List.any_eq_false]
  intro r hr
  obtain ⟨j, hj, rfl⟩ := List.getElem_of_mem hr
  simp [h j hj]

set_option maxRecDepth 20000 in
set_option maxHeartbeats 4000000 in
theorem mayDo_any (hl : LawAt 0 w sv mv tv Ss Ms Ts) (h : BookAt 0 w ov gv lv pv B) (hok : ∀ r ∈ rulesTo B.gs who, ruleB r = true) (hgm : B.gs.length ≤ 1048576) :
    Calls Tryz.prog 37 #[.agg #[sv, mv, tv], .agg #[.int .i64 B.now, .int .i64 B.tick, .int .i64 B.given, ov, gv, lv, pv], .string who, .agg #[.int .i64 v, .string kind, .string team, .string name]] w fun e w' => e = .returned (.bool (mayR Ts (rulesTo B.gs who) v kind team name)) ∧ Below w.heap.size w w' := by
  have HL := hide hl
  have HK := hide h
  obtain ⟨a, cap, rfl⟩ := hl.shs.form
  obtain ⟨a1, cap1, rfl⟩ := hl.mds.form
  obtain ⟨a2, cap2, rfl⟩ := hl.tms.form
  obtain ⟨oa0, oc0, rfl⟩ := h.obs.form
  obtain ⟨oa1, oc1, rfl⟩ := h.grs.form
  obtain ⟨oa2, oc2, rfl⟩ := h.les.form
  obtain ⟨oa3, oc3, rfl⟩ := h.pus.form
  clear hl h
  have HOK := hide hok
  clear hok
  go_enter Tryz.func37, Tryz.ntmps37
  go_wp2_with fail
  generalize hWa : World.alloc (World.alloc (w.alloc _) _) _ = Wa
  have HBa : Hid (Below w.heap.size w Wa) := by rw [← hWa]; exact ((one_al w _).alloc (by simp) _).alloc (by simp; omega) _
  have FA : Hid (Box Wa w.heap.size #[.slice a Ss.length cap, .slice a1 Ms.length cap1, .slice a2 Ts.length cap2]) := by rw [← hWa]; exact ((Box.new _ _ _ _ rfl).on (one_al _ _)).on (one_al _ _)
  have FB : Hid (Box Wa (w.heap.size + 1) #[.int .i64 B.now, .int .i64 B.tick, .int .i64 B.given, .slice oa0 B.os.length oc0, .slice oa1 B.gs.length oc1, .slice oa2 B.ls.length oc2, .slice oa3 B.ps.length oc3]) := by rw [← hWa]; exact (Box.new _ _ _ _ (by simp)).on (one_al _ _)
  have FC : Hid (Box Wa (w.heap.size + 2) #[.int .i64 v, .string kind, .string team, .string name]) := by rw [← hWa]; exact Box.new _ _ _ _ (by simp)
  clear hWa
  refine (rulesToI_any _ B.gs who _ (HK.out.grs.below HBa.out) hgm).mono ?_
  rintro e w1 ⟨rv, rfl, hb1, hr1⟩
  obtain ⟨ra, rc, rfl⟩ := hr1.form
  have HR := hide hr1
  have HB1 : Hid (Below w.heap.size w w1) := bt HBa.out hb1
  replace FA := hide (FA.out.on hb1)
  replace FC := hide (FC.out.on hb1)
  clear hb1 hr1 HBa FB
  generalize hRs : rulesTo B.gs who = Rs at *
  have HRS := hide hRs
  clear hRs
  have hmax := HR.out.max
  unfold maxLen at hmax
  go_wp2
  go_loopw [16] (fun i wr => ∃ k : Nat, i = .int .i64 k ∧ k ≤ Rs.length ∧ Below w1.heap.size w1 wr ∧ ∀ j (hj : j < Rs.length), j < k → givesP Ts Rs[j] kind team name v = false) (fun i _ => Rs.length - (intOf i).toNat)
  case atStart => exact ⟨0, rfl, by omega, Below.refl _ _, fun j _ h => by omega⟩
  case round =>
    obtain ⟨k, rfl, hk, hb, hall⟩ := hrel
    have HB := hide hb
    have HA := hide hall
    clear hb hall
    by_cases hlt : k < Rs.length
    · obtain ⟨rb, ro, rfl, hrb, hrc⟩ := HR.out.full' (by omega)
      obtain ⟨hsz, qv, hcell, hqv⟩ := hrc k hlt
      obtain ⟨c0, c1, c2, c3⟩ := hcell.below HB.out hrb
      obtain ⟨qa, qcap, rfl⟩ := hqv.form
      have HQ := hide hqv
      clear hcell hqv hrc hsz
      have FAr := hide (FA.out.on HB.out)
      have FCr := hide (FC.out.on HB.out)
      have g0 : ∀ o, (wr.alloc o).cell? ⟨w.heap.size, 2, none⟩ = some (.slice a2 Ts.length cap2) := fun o => ((cell_alloc_lt _ _ _ _ FAr.out.lt).trans (FAr.out.cell 2)).trans (by simp)
      have g1 : ∀ o i, (wr.alloc o).cell? ⟨w.heap.size + 2, i, none⟩ = _ := fun o i => (cell_alloc_lt _ _ _ _ FCr.out.lt).trans (FCr.out.cell i)
      go_wp2_with fail
      clear g0 g1
      refine (allowsAct_any 0 0 _ _ Ts Rs[k] v kind team name _ (((HL.out.tms.below HB1.out).below HB.out).below (one_al _ _)) ((HQ.out.below HB.out).below (one_al _ _))).mono ?_
      rintro e w2 ⟨rfl, hb2⟩
      rw [allows_in (HOK.out _ (List.getElem_mem hlt))]
      have HB2 : Hid (Below w1.heap.size w1 w2) := bt (bt HB.out (one_al _ _)) hb2
      clear hb2
      cases hg : givesP Ts Rs[k] kind team name v with
      | true =>
        have HY := hide (mayR_yes hlt hg)
        go_wp2
        go_ret
        exact ⟨ret_bool (by rw [HRS.out]; exact HY.out.symm), bt HB1.out HB2.out⟩
      | false =>
        go_wp2
        go_roundw
        case rel => exact ⟨k + 1, by go_num, by omega, HB2.out, fun j hj hjk => by
          by_cases e : j = k
          · subst e; exact hg
          · exact HA.out j hj (by omega)⟩
        case measure => simp [intOf]; omega
    · have HN : Hid (mayR Ts Rs v kind team name = false) := mayR_no (fun j hj => HA.out j hj (by omega))
      go_wp2
      go_ret
      exact ⟨ret_bool (by rw [HRS.out]; exact HN.out.symm), bt HB1.out HB.out⟩

set_option maxRecDepth 20000 in
set_option maxHeartbeats 4000000 in
theorem l8May_any (hl : LawAt 0 w sv mv tv Ss Ms Ts) (h : BookAt 0 w ov gv lv pv B) (hgm : B.gs.length ≤ 1048576) :
    Calls Tryz.prog 28 #[.agg #[sv, mv, tv], .agg #[.int .i64 B.now, .int .i64 B.tick, .int .i64 B.given, ov, gv, lv, pv], .string who, .agg #[.int .i64 v, .string kind, .string team, .string name]] w fun e w' => e = .returned (.bool (mayR Ts (rulesTo B.gs who) v kind team name)) ∧ Below w.heap.size w w' := by
  have HL := hide hl
  have HK := hide h
  obtain ⟨a, cap, rfl⟩ := hl.shs.form
  obtain ⟨a1, cap1, rfl⟩ := hl.mds.form
  obtain ⟨a2, cap2, rfl⟩ := hl.tms.form
  obtain ⟨oa0, oc0, rfl⟩ := h.obs.form
  obtain ⟨oa1, oc1, rfl⟩ := h.grs.form
  obtain ⟨oa2, oc2, rfl⟩ := h.les.form
  obtain ⟨oa3, oc3, rfl⟩ := h.pus.form
  clear hl h
  go_enter Tryz.func28, Tryz.ntmps28
  go_wp2_with fail
  generalize hWa : World.alloc (World.alloc (w.alloc _) _) _ = Wa
  have HBa : Hid (Below w.heap.size w Wa) := by rw [← hWa]; exact ((one_al w _).alloc (by simp) _).alloc (by simp; omega) _
  have FA : Hid (Box Wa w.heap.size #[.slice a Ss.length cap, .slice a1 Ms.length cap1, .slice a2 Ts.length cap2]) := by rw [← hWa]; exact ((Box.new _ _ _ _ rfl).on (one_al _ _)).on (one_al _ _)
  have FB : Hid (Box Wa (w.heap.size + 1) #[.int .i64 B.now, .int .i64 B.tick, .int .i64 B.given, .slice oa0 B.os.length oc0, .slice oa1 B.gs.length oc1, .slice oa2 B.ls.length oc2, .slice oa3 B.ps.length oc3]) := by rw [← hWa]; exact (Box.new _ _ _ _ (by simp)).on (one_al _ _)
  have FC : Hid (Box Wa (w.heap.size + 2) #[.int .i64 v, .string kind, .string team, .string name]) := by rw [← hWa]; exact Box.new _ _ _ _ (by simp)
  clear hWa
  refine (l8Rules_any _ _ _ _ B who _ (HK.out.below HBa.out) hgm).mono ?_
  rintro e w1 ⟨rv, rfl, hb1, hr1⟩
  obtain ⟨ra, rc, rfl⟩ := hr1.form
  have HR := hide hr1
  have HB1 : Hid (Below w.heap.size w w1) := bt HBa.out hb1
  replace FA := hide (FA.out.on hb1)
  replace FC := hide (FC.out.on hb1)
  clear hb1 hr1 HBa FB
  generalize hRs : rulesTo B.gs who = Rs at *
  have HRS := hide hRs
  clear hRs
  have hmax := HR.out.max
  unfold maxLen at hmax
  go_wp2
  go_loopw [10] (fun i wr => ∃ k : Nat, i = .int .i64 k ∧ k ≤ Rs.length ∧ Below w1.heap.size w1 wr ∧ ∀ j (hj : j < Rs.length), j < k → givesP Ts Rs[j] kind team name v = false) (fun i _ => Rs.length - (intOf i).toNat)
  case atStart => exact ⟨0, rfl, by omega, Below.refl _ _, fun j _ h => by omega⟩
  case round =>
    obtain ⟨k, rfl, hk, hb, hall⟩ := hrel
    have HB := hide hb
    have HA := hide hall
    clear hb hall
    by_cases hlt : k < Rs.length
    · obtain ⟨rb, ro, rfl, hrb, hrc⟩ := HR.out.full' (by omega)
      obtain ⟨hsz, qv, hcell, hqv⟩ := hrc k hlt
      obtain ⟨c0, c1, c2, c3⟩ := hcell.below HB.out hrb
      obtain ⟨qa, qcap, rfl⟩ := hqv.form
      have HQ := hide hqv
      clear hcell hqv hrc hsz
      have FAr := hide (FA.out.on HB.out)
      have FCr := hide (FC.out.on HB.out)
      have g0 : wr.cell? ⟨w.heap.size, 2, none⟩ = some (.slice a2 Ts.length cap2) := (FAr.out.cell 2).trans (by simp)
      have g1 := FCr.out.cell
      go_wp2
      go_region_with (go_at_call 67; refine (l4Allows_any 0 0 _ _ Ts Rs[k] v kind team name _ ((((HL.out.tms.below HB1.out).below HB.out)).below ((Below.refl _ _).drew)) ((HQ.out.below HB.out).below ((Below.refl _ _).drew))).mono ?_; rintro e w2 ⟨rfl, hb2⟩; have HB2 : Hid (Below w1.heap.size w1 w2) := (HB.out.drew).trans (hb2.mono HB.out.size); clear hb2)
      all_goals
        clear g0 g1
        cases hg : givesP Ts Rs[k] kind team name v with
        | true =>
          have HY := hide (mayR_yes hlt hg)
          go_wp2
          go_ret
          exact ⟨ret_bool (by rw [HRS.out]; exact HY.out.symm), bt HB1.out HB2.out⟩
        | false =>
          go_wp2
          go_roundw
          case rel => exact ⟨k + 1, by go_num, by omega, HB2.out, fun j hj hjk => by
            by_cases e : j = k
            · subst e; exact hg
            · exact HA.out j hj (by omega)⟩
          case measure => simp [intOf]; omega
    · have HN : Hid (mayR Ts Rs v kind team name = false) := mayR_no (fun j hj => HA.out j hj (by omega))
      go_wp2
      go_ret
      exact ⟨ret_bool (by rw [HRS.out]; exact HN.out.symm), bt HB1.out HB.out⟩

set_option maxRecDepth 20000 in
set_option maxHeartbeats 4000000 in
theorem implMay_any (hl : LawAt 0 w sv mv tv Ss Ms Ts) (h : BookAt 0 w ov gv lv pv B) (hn : BookSmall B) (hsh : ShapesTo Ss Ms B.os FF) :
    Calls Tryz.prog 12 #[.agg #[sv, mv, tv], .agg #[.int .i64 B.now, .int .i64 B.tick, .int .i64 B.given, ov, gv, lv, pv], .string who, .agg #[.int .i64 v, .string kind, .string team, .string name]] w fun e w' => e = .returned (.bool (mayB Ss Ms Ts B FF who v kind team name)) ∧ Below w.heap.size w w' := by
  have HL := hide hl
  have HK := hide h
  obtain ⟨a, cap, rfl⟩ := hl.shs.form
  obtain ⟨a1, cap1, rfl⟩ := hl.mds.form
  obtain ⟨a2, cap2, rfl⟩ := hl.tms.form
  obtain ⟨oa0, oc0, rfl⟩ := h.obs.form
  obtain ⟨oa1, oc1, rfl⟩ := h.grs.form
  obtain ⟨oa2, oc2, rfl⟩ := h.les.form
  obtain ⟨oa3, oc3, rfl⟩ := h.pus.form
  clear hl h
  have HN := hide hn
  have HSH := hide hsh
  clear hn hsh
  go_enter Tryz.func12, Tryz.ntmps12
  go_wp2_with fail
  generalize hWa : World.alloc (World.alloc (w.alloc _) _) _ = Wa
  have HBa : Hid (Below w.heap.size w Wa) := by rw [← hWa]; exact ((one_al w _).alloc (by simp) _).alloc (by simp; omega) _
  have FA : Hid (Box Wa w.heap.size #[.slice a Ss.length cap, .slice a1 Ms.length cap1, .slice a2 Ts.length cap2]) := by rw [← hWa]; exact ((Box.new _ _ _ _ rfl).on (one_al _ _)).on (one_al _ _)
  have FB : Hid (Box Wa (w.heap.size + 1) #[.int .i64 B.now, .int .i64 B.tick, .int .i64 B.given, .slice oa0 B.os.length oc0, .slice oa1 B.gs.length oc1, .slice oa2 B.ls.length oc2, .slice oa3 B.ps.length oc3]) := by rw [← hWa]; exact (Box.new _ _ _ _ (by simp)).on (one_al _ _)
  have FC : Hid (Box Wa (w.heap.size + 2) #[.int .i64 v, .string kind, .string team, .string name]) := by rw [← hWa]; exact Box.new _ _ _ _ (by simp)
  clear hWa
  refine (implBook_any 0 _ _ _ _ _ _ _ Ss Ms Ts B FF _ (HL.out.below HBa.out) (HK.out.below HBa.out) HN.out HSH.out).mono ?_
  rintro e w1 ⟨rfl, hb1⟩
  have HB1 : Hid (Below w.heap.size w w1) := bt HBa.out hb1
  replace FA := hide (FA.out.on hb1)
  replace FB := hide (FB.out.on hb1)
  replace FC := hide (FC.out.on hb1)
  clear hb1 HBa
  cases q1 : bookB Ss Ms Ts B FF with
  | false =>
    have HR : Hid (mayB Ss Ms Ts B FF who v kind team name = false) := by unfold Hid mayB; rw [q1]; rfl
    go_wp2
    go_ret
    exact ⟨ret_bool HR.out.symm, HB1.out⟩
  | true =>
    have HR : Hid (mayB Ss Ms Ts B FF who v kind team name = mayR Ts (rulesTo B.gs who) v kind team name) := by unfold Hid mayB; rw [q1]; rfl
    have g0 := FA.out.cell
    have g1 := FB.out.cell
    have g2 := FC.out.cell
    go_wp2_with fail
    clear g0 g1 g2
    refine (mayDo_any _ _ _ _ _ _ _ Ss Ms Ts B who v kind team name _ (HL.out.below HB1.out) (HK.out.below HB1.out) (book_rules q1 who) HN.out.2.1.1).mono ?_
    rintro e w2 ⟨rfl, hb2⟩
    have HB2 : Hid (Below w.heap.size w w2) := bt HB1.out hb2
    clear hb2
    go_wp2
    go_ret
    exact ⟨ret_bool HR.out.symm, HB2.out⟩

set_option maxRecDepth 20000 in
set_option maxHeartbeats 4000000 in
theorem specMay_any (hl : LawAt 0 w sv mv tv Ss Ms Ts) (h : BookAt 0 w ov gv lv pv B) (hn : BookSmall B) (hsh : ShapesTo Ss Ms B.os FF) :
    Calls Tryz.prog 8 #[.agg #[sv, mv, tv], .agg #[.int .i64 B.now, .int .i64 B.tick, .int .i64 B.given, ov, gv, lv, pv], .string who, .agg #[.int .i64 v, .string kind, .string team, .string name]] w fun e w' => e = .returned (.bool (mayB Ss Ms Ts B FF who v kind team name)) ∧ Below w.heap.size w w' := by
  have HL := hide hl
  have HK := hide h
  obtain ⟨a, cap, rfl⟩ := hl.shs.form
  obtain ⟨a1, cap1, rfl⟩ := hl.mds.form
  obtain ⟨a2, cap2, rfl⟩ := hl.tms.form
  obtain ⟨oa0, oc0, rfl⟩ := h.obs.form
  obtain ⟨oa1, oc1, rfl⟩ := h.grs.form
  obtain ⟨oa2, oc2, rfl⟩ := h.les.form
  obtain ⟨oa3, oc3, rfl⟩ := h.pus.form
  clear hl h
  have HN := hide hn
  have HSH := hide hsh
  clear hn hsh
  go_enter Tryz.func8, Tryz.ntmps8
  go_wp2_with fail
  generalize hWa : World.alloc (World.alloc (w.alloc _) _) _ = Wa
  have HBa : Hid (Below w.heap.size w Wa) := by rw [← hWa]; exact ((one_al w _).alloc (by simp) _).alloc (by simp; omega) _
  have FA : Hid (Box Wa w.heap.size #[.slice a Ss.length cap, .slice a1 Ms.length cap1, .slice a2 Ts.length cap2]) := by rw [← hWa]; exact ((Box.new _ _ _ _ rfl).on (one_al _ _)).on (one_al _ _)
  have FB : Hid (Box Wa (w.heap.size + 1) #[.int .i64 B.now, .int .i64 B.tick, .int .i64 B.given, .slice oa0 B.os.length oc0, .slice oa1 B.gs.length oc1, .slice oa2 B.ls.length oc2, .slice oa3 B.ps.length oc3]) := by rw [← hWa]; exact (Box.new _ _ _ _ (by simp)).on (one_al _ _)
  have FC : Hid (Box Wa (w.heap.size + 2) #[.int .i64 v, .string kind, .string team, .string name]) := by rw [← hWa]; exact Box.new _ _ _ _ (by simp)
  clear hWa
  refine (specBook_any 0 _ _ _ _ _ _ _ Ss Ms Ts B FF _ (HL.out.below HBa.out) (HK.out.below HBa.out) HN.out HSH.out).mono ?_
  rintro e w1 ⟨rfl, hb1⟩
  have HB1 : Hid (Below w.heap.size w w1) := bt HBa.out hb1
  replace FA := hide (FA.out.on hb1)
  replace FB := hide (FB.out.on hb1)
  replace FC := hide (FC.out.on hb1)
  clear hb1 HBa
  cases q1 : bookB Ss Ms Ts B FF with
  | false =>
    have HR : Hid (mayB Ss Ms Ts B FF who v kind team name = false) := by unfold Hid mayB; rw [q1]; rfl
    go_wp2
    go_ret
    exact ⟨ret_bool HR.out.symm, HB1.out⟩
  | true =>
    have HR : Hid (mayB Ss Ms Ts B FF who v kind team name = mayR Ts (rulesTo B.gs who) v kind team name) := by unfold Hid mayB; rw [q1]; rfl
    have g0 := FA.out.cell
    have g1 := FB.out.cell
    have g2 := FC.out.cell
    go_wp2_with fail
    clear g0 g1 g2
    refine (l8May_any _ _ _ _ _ _ _ Ss Ms Ts B who v kind team name _ (HL.out.below HB1.out) (HK.out.below HB1.out) HN.out.2.1.1).mono ?_
    rintro e w2 ⟨rfl, hb2⟩
    have HB2 : Hid (Below w.heap.size w w2) := bt HB1.out hb2
    clear hb2
    go_wp2
    go_ret
    exact ⟨ret_bool HR.out.symm, HB2.out⟩
end
end Go.Proofs.YthfdfdlojfdckaaGreat

