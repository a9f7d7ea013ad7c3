import Derived.Test.YtlicfainajkihaaGreatVJ7
import Derived.Test.YtlicfainajkihaaGreatVHS
import Derived.Test.YtlicfainajkihaaGreatVH8
import Derived.Test.YtlicfainajkihaaGreatVOPB
import Derived.Test.YtlicfainajkihaaGreatVBBL
import Derived.Deep.RegionHeld3
import Derived.Test.YtlicfainajkihaaGreatVOpX
import Derived.Test.YtlicfainajkihaaGreatVB1
import Derived.Test.YtlicfainajkihaaGreatVTA
import Derived.Test.YtlicfainajkihaaGreatVH7
import Derived.Test.YtlicfainajkihaaGreatVJB
import Derived.Test.YtlicfainajkihaaGreatVHB
import Derived.Test.YtlicfainajkihaaGreatVP1
import Derived.Test.YtlicfainajkihaaGreatVA1
import Derived.Test.YtlicfainajkihaaGreatVBLP
import Derived.Test.YtlicfainajkihaaGreatVHA
import Derived.Test.YtlicfainajkihaaGreatVBOG
import Derived.Test.YtlicfainajkihaaGreatVNZ
import Derived.Test.YtlicfainajkihaaGreatVDA
import Derived.Test.YtlicfainajkihaaGreatVLA
import Derived.Test.YtlicfainajkihaaGreatVH9
namespace Go.Proofs.YtlicfainajkihaaGreat
open Go.RowKit Go.Deep Go.Maps

/-- what is asked of a book under an ok law -/
def soundB (Ss : List Sh) (Ts : List Tm) (B : Bk) (FF : Nat → List ByteArray) : Bool := timesB B && (objectsB Ss Ts B FF && (grantsB B && lpsB Ss Ts B))
def bookB (Ss : List Sh) (Ms : List Md) (Ts : List Tm) (B : Bk) (FF : Nat → List ByteArray) : Bool := lawB Ss Ms Ts && soundB Ss Ts B FF
theorem law_mends {Ss : List Sh} {Ms : List Md} {Ts : List Tm} (h : lawB Ss Ms Ts = true) : mendsB Ss Ms = true := by
  unfold lawB at h
  rw [Bool.and_eq_true] at h
  exact h.1
theorem times_tick {B : Bk} (h : timesB B = true) : inB 0 1000000 B.tick = true := by
  unfold timesB at h
  rw [Bool.and_eq_true, Bool.and_eq_true] at h
  exact h.1.2
theorem ledgers_ris {Ts : List Tm} {Ls : List Le} (h : ledgersB Ts Ls = true) : risB cLes Ls = true := by
  unfold ledgersB at h
  rw [Bool.and_eq_true, Bool.and_eq_true] at h
  exact h.1.2
theorem ShapesTo.exists (Ss : List Sh) (Ms : List Md) (Os : List Ob) : ∃ FF, ShapesTo Ss Ms Os FF := by
  have h : ∀ i, ∃ F, ∀ (h : i < Os.length), ShapeTo Ss Ms Os[i].kd Os[i].vs F := fun i => by
    by_cases hi : i < Os.length
    · obtain ⟨F, hF⟩ := ShapeTo.exists Ss Ms Os[i].kd Os[i].vs
      exact ⟨F, fun _ => hF⟩
    · exact ⟨[], fun h => absurd h hi⟩
  exact ⟨fun i => (h i).choose, fun i hi => (h i).choose_spec hi⟩

section
variable (lo : Nat) (sv mv tv ov gv lv pv : Value) (Ss : List Sh) (Ms : List Md) (Ts : List Tm) (B : Bk) (FF : Nat → List ByteArray) (w : World)

set_option maxRecDepth 100000 in
set_option maxHeartbeats 8000000 in
theorem bookSound_any (hl : LawAt lo w sv mv tv Ss Ms Ts) (hmb : mendsB Ss Ms = true) (h : BookAt lo w ov gv lv pv B) (hn : BookSmall B) (hsh : ShapesTo Ss Ms B.os FF) :
    Calls Tryz.prog 32 #[.agg #[sv, mv, tv], .agg #[.int .i64 B.now, .int .i64 B.tick, .int .i64 B.given, ov, gv, lv, pv]] w fun e w' => e = .returned (.bool (soundB Ss Ts B FF)) ∧ Below w.heap.size w w' := by
  have HL := hide hl
  have HK := hide h
  have HN := hide hn
  have HSH := hide hsh
  have HMB := hide hmb
  have HLL : Hid (B.ls.length ≤ 1048576) := hn.2.2.1.1
  have HI : Hid (soundB Ss Ts B FF = (timesB B && (objectsB Ss Ts B FF && (grantsB B && (ledgersB Ts B.ls && (pursesB B && sumsB Ss Ts B)))))) := rfl
  obtain ⟨sa, sc, rfl⟩ := hl.shs.form
  obtain ⟨ma, mc, rfl⟩ := hl.mds.form
  obtain ⟨ta, tc, rfl⟩ := hl.tms.form
  obtain ⟨a0, k0, rfl⟩ := h.obs.form
  obtain ⟨a1, k1, rfl⟩ := h.grs.form
  obtain ⟨a2, k2, rfl⟩ := h.les.form
  obtain ⟨a3, k3, rfl⟩ := h.pus.form
  clear hl hmb h hn hsh
  go_enter Tryz.func32, Tryz.ntmps32
  go_wp2_with fail
  generalize hWa : (World.alloc (w.alloc _) _) = w0
  have HB0 : Hid (Below w.heap.size w w0) := by rw [← hWa]; exact (one_al w _).alloc (by simp) _
  have HX0 : Hid (Box w0 w.heap.size #[.slice sa Ss.length sc, .slice ma Ms.length mc, .slice ta Ts.length tc]) := by rw [← hWa]; exact (Box.new _ _ _ _ rfl).on (one_al _ _)
  have HY0 : Hid (Box w0 (w.heap.size + 1) #[.int .i64 B.now, .int .i64 B.tick, .int .i64 B.given, .slice a0 B.os.length k0, .slice a1 B.gs.length k1, .slice a2 B.ls.length k2, .slice a3 B.ps.length k3]) := by rw [← hWa]; exact Box.new _ _ _ _ (by simp)
  clear hWa
  refine (timesOk_any lo _ _ _ _ B _ (HK.out.below HB0.out)).mono ?_
  rintro e w1 ⟨rfl, hb⟩
  have HB1 : Hid (Below w.heap.size w w1) := HB0.out.trans (hb.mono HB0.out.size)
  have HX1 := hide (HX0.out.on hb)
  have HY1 := hide (HY0.out.on hb)
  clear hb HB0 HX0 HY0
  cases h0 : timesB B with
  | false =>
    have HE : Hid (soundB Ss Ts B FF = false) := by unfold Hid; rw [HI.out, h0]; rfl
    go_wp2
    go_ret
    exact ⟨ret_bool HE.out.symm, HB1.out⟩
  | true =>
    have l0 := HX1.out.cell 0
    have l1 := HX1.out.cell 1
    have l2 := HX1.out.cell 2
    have b0 := HY1.out.cell 0
    have b1 := HY1.out.cell 1
    have b2 := HY1.out.cell 2
    have b3 := HY1.out.cell 3
    have b4 := HY1.out.cell 4
    have b5 := HY1.out.cell 5
    have b6 := HY1.out.cell 6
    simp at l0 l1 l2 b0 b1 b2 b3 b4 b5 b6
    go_wp2_with fail
    clear l0 l1 l2 b0 b1 b2 b3 b4 b5 b6
    refine (implObjects_any lo _ _ _ _ _ _ _ Ss Ms Ts B FF _ (HL.out.below HB1.out) HMB.out (HK.out.below HB1.out) HN.out.1 HSH.out).mono ?_
    rintro e w2 ⟨rfl, hb⟩
    have HB2 : Hid (Below w.heap.size w w2) := HB1.out.trans (hb.mono HB1.out.size)
    have HX2 := hide (HX1.out.on hb)
    have HY2 := hide (HY1.out.on hb)
    clear hb HB1 HX1 HY1
    cases h1 : objectsB Ss Ts B FF with
    | false =>
      have HE : Hid (soundB Ss Ts B FF = false) := by unfold Hid; rw [HI.out, h0, h1]; rfl
      go_wp2
      go_ret
      exact ⟨ret_bool HE.out.symm, HB2.out⟩
    | true =>
      have l0 := HX2.out.cell 0
      have l1 := HX2.out.cell 1
      have l2 := HX2.out.cell 2
      have b0 := HY2.out.cell 0
      have b1 := HY2.out.cell 1
      have b2 := HY2.out.cell 2
      have b3 := HY2.out.cell 3
      have b4 := HY2.out.cell 4
      have b5 := HY2.out.cell 5
      have b6 := HY2.out.cell 6
      simp at l0 l1 l2 b0 b1 b2 b3 b4 b5 b6
      go_wp2_with fail
      clear l0 l1 l2 b0 b1 b2 b3 b4 b5 b6
      refine (implGrants_any lo _ _ _ _ B _ (HK.out.below HB2.out)).mono ?_
      rintro e w3 ⟨rfl, hb⟩
      have HB3 : Hid (Below w.heap.size w w3) := HB2.out.trans (hb.mono HB2.out.size)
      have HX3 := hide (HX2.out.on hb)
      have HY3 := hide (HY2.out.on hb)
      clear hb HB2 HX2 HY2
      cases h2 : grantsB B with
      | false =>
        have HE : Hid (soundB Ss Ts B FF = false) := by unfold Hid; rw [HI.out, h0, h1, h2]; rfl
        go_wp2
        go_ret
        exact ⟨ret_bool HE.out.symm, HB3.out⟩
      | true =>
        have l0 := HX3.out.cell 0
        have l1 := HX3.out.cell 1
        have l2 := HX3.out.cell 2
        have b0 := HY3.out.cell 0
        have b1 := HY3.out.cell 1
        have b2 := HY3.out.cell 2
        have b3 := HY3.out.cell 3
        have b4 := HY3.out.cell 4
        have b5 := HY3.out.cell 5
        have b6 := HY3.out.cell 6
        simp at l0 l1 l2 b0 b1 b2 b3 b4 b5 b6
        go_wp2_with fail
        clear l0 l1 l2 b0 b1 b2 b3 b4 b5 b6
        refine (implLedgers_any lo _ _ _ _ Ss Ms Ts B.ls _ (HL.out.below HB3.out) (HK.out.below HB3.out).les).mono ?_
        rintro e w4 ⟨rfl, hb⟩
        have HB4 : Hid (Below w.heap.size w w4) := HB3.out.trans (hb.mono HB3.out.size)
        have HX4 := hide (HX3.out.on hb)
        have HY4 := hide (HY3.out.on hb)
        clear hb HB3 HX3 HY3
        cases h3 : ledgersB Ts B.ls with
        | false =>
          have HE : Hid (soundB Ss Ts B FF = false) := by unfold Hid; rw [HI.out, h0, h1, h2, h3]; rfl
          go_wp2
          go_ret
          exact ⟨ret_bool HE.out.symm, HB4.out⟩
        | true =>
          have l0 := HX4.out.cell 0
          have l1 := HX4.out.cell 1
          have l2 := HX4.out.cell 2
          have b0 := HY4.out.cell 0
          have b1 := HY4.out.cell 1
          have b2 := HY4.out.cell 2
          have b3 := HY4.out.cell 3
          have b4 := HY4.out.cell 4
          have b5 := HY4.out.cell 5
          have b6 := HY4.out.cell 6
          simp at l0 l1 l2 b0 b1 b2 b3 b4 b5 b6
          go_wp2_with fail
          clear l0 l1 l2 b0 b1 b2 b3 b4 b5 b6
          refine (implPurses_any lo _ _ _ _ B _ (HK.out.below HB4.out) HLL.out (ledgers_ris h3) (times_tick h0)).mono ?_
          rintro e w5 ⟨rfl, hb⟩
          have HB5 : Hid (Below w.heap.size w w5) := HB4.out.trans (hb.mono HB4.out.size)
          have HX5 := hide (HX4.out.on hb)
          have HY5 := hide (HY4.out.on hb)
          clear hb HB4 HX4 HY4
          cases h4 : pursesB B with
          | false =>
            have HE : Hid (soundB Ss Ts B FF = false) := by unfold Hid; rw [HI.out, h0, h1, h2, h3, h4]; rfl
            go_wp2
            go_ret
            exact ⟨ret_bool HE.out.symm, HB5.out⟩
          | true =>
            have l0 := HX5.out.cell 0
            have l1 := HX5.out.cell 1
            have l2 := HX5.out.cell 2
            have b0 := HY5.out.cell 0
            have b1 := HY5.out.cell 1
            have b2 := HY5.out.cell 2
            have b3 := HY5.out.cell 3
            have b4 := HY5.out.cell 4
            have b5 := HY5.out.cell 5
            have b6 := HY5.out.cell 6
            simp at l0 l1 l2 b0 b1 b2 b3 b4 b5 b6
            go_wp2_with fail
            clear l0 l1 l2 b0 b1 b2 b3 b4 b5 b6
            refine (implSums_any lo _ _ _ _ _ _ _ Ss Ms Ts B _ (HL.out.below HB5.out) (HK.out.below HB5.out) HN.out).mono ?_
            rintro e w6 ⟨rfl, hb⟩
            have HB6 : Hid (Below w.heap.size w w6) := HB5.out.trans (hb.mono HB5.out.size)
            have HX6 := hide (HX5.out.on hb)
            have HY6 := hide (HY5.out.on hb)
            clear hb HB5 HX5 HY5
            have HE : Hid (soundB Ss Ts B FF = sumsB Ss Ts B) := by unfold Hid; rw [HI.out, h0, h1, h2, h3, h4]; rfl
            go_wp2
            go_ret
            exact ⟨ret_bool HE.out.symm, HB6.out⟩

set_option maxRecDepth 100000 in
set_option maxHeartbeats 4000000 in
theorem implBook_any (hl : LawAt lo w sv mv tv Ss Ms Ts) (h : BookAt lo w ov gv lv pv B) (hn : BookSmall B) (hsh : ShapesTo Ss Ms B.os FF) :
    Calls Tryz.prog 9 #[.agg #[sv, mv, tv], .agg #[.int .i64 B.now, .int .i64 B.tick, .int .i64 B.given, ov, gv, lv, pv]] w fun e w' => e = .returned (.bool (bookB Ss Ms Ts B FF)) ∧ Below w.heap.size w w' := by
  have HL := hide hl
  have HK := hide h
  have HN := hide hn
  have HSH := hide hsh
  have HI : Hid (bookB Ss Ms Ts B FF = (lawB Ss Ms Ts && soundB Ss Ts B FF)) := rfl
  obtain ⟨sa, sc, rfl⟩ := hl.shs.form
  obtain ⟨ma, mc, rfl⟩ := hl.mds.form
  obtain ⟨ta, tc, rfl⟩ := hl.tms.form
  obtain ⟨a0, k0, rfl⟩ := h.obs.form
  obtain ⟨a1, k1, rfl⟩ := h.grs.form
  obtain ⟨a2, k2, rfl⟩ := h.les.form
  obtain ⟨a3, k3, rfl⟩ := h.pus.form
  clear hl h hn hsh
  go_enter Tryz.func9, Tryz.ntmps9
  go_wp2_with fail
  generalize hWa : (World.alloc (w.alloc _) _) = w0
  have HB0 : Hid (Below w.heap.size w w0) := by rw [← hWa]; exact (one_al w _).alloc (by simp) _
  have HX0 : Hid (Box w0 w.heap.size #[.slice sa Ss.length sc, .slice ma Ms.length mc, .slice ta Ts.length tc]) := by rw [← hWa]; exact (Box.new _ _ _ _ rfl).on (one_al _ _)
  have HY0 : Hid (Box w0 (w.heap.size + 1) #[.int .i64 B.now, .int .i64 B.tick, .int .i64 B.given, .slice a0 B.os.length k0, .slice a1 B.gs.length k1, .slice a2 B.ls.length k2, .slice a3 B.ps.length k3]) := by rw [← hWa]; exact Box.new _ _ _ _ (by simp)
  clear hWa
  refine (implLawOk_any lo _ _ _ Ss Ms Ts _ (HL.out.below HB0.out)).mono ?_
  rintro e w1 ⟨rfl, hb⟩
  have HB1 : Hid (Below w.heap.size w w1) := HB0.out.trans (hb.mono HB0.out.size)
  have HX1 := hide (HX0.out.on hb)
  have HY1 := hide (HY0.out.on hb)
  clear hb HB0 HX0 HY0
  cases h0 : lawB Ss Ms Ts with
  | false =>
    have HE : Hid (bookB Ss Ms Ts B FF = false) := by unfold Hid; rw [HI.out, h0]; rfl
    go_wp2
    go_ret
    exact ⟨ret_bool HE.out.symm, HB1.out⟩
  | true =>
    have HE : Hid (bookB Ss Ms Ts B FF = soundB Ss Ts B FF) := by unfold Hid; rw [HI.out, h0]; rfl
    have l0 := HX1.out.cell 0
    have l1 := HX1.out.cell 1
    have l2 := HX1.out.cell 2
    have b0 := HY1.out.cell 0
    have b1 := HY1.out.cell 1
    have b2 := HY1.out.cell 2
    have b3 := HY1.out.cell 3
    have b4 := HY1.out.cell 4
    have b5 := HY1.out.cell 5
    have b6 := HY1.out.cell 6
    simp at l0 l1 l2 b0 b1 b2 b3 b4 b5 b6
    go_wp2_with fail
    clear l0 l1 l2 b0 b1 b2 b3 b4 b5 b6
    refine (bookSound_any lo _ _ _ _ _ _ _ Ss Ms Ts B FF _ (HL.out.below HB1.out) (law_mends h0) (HK.out.below HB1.out) HN.out HSH.out).mono ?_
    rintro e w2 ⟨rfl, hb⟩
    have HB2 : Hid (Below w.heap.size w w2) := HB1.out.trans (hb.mono HB1.out.size)
    go_wp2
    go_ret
    exact ⟨ret_bool HE.out.symm, HB2.out⟩

set_option maxRecDepth 100000 in
set_option maxHeartbeats 8000000 in
theorem specBook_any (hl : LawAt lo w sv mv tv Ss Ms Ts) (h : BookAt lo w ov gv lv pv B) (hn : BookSmall B) (hsh : ShapesTo Ss Ms B.os FF) :
    Calls Tryz.prog 6 #[.agg #[sv, mv, tv], .agg #[.int .i64 B.now, .int .i64 B.tick, .int .i64 B.given, ov, gv, lv, pv]] w fun e w' => e = .returned (.bool (bookB Ss Ms Ts B FF)) ∧ Below w.heap.size w w' := by
  have HL := hide hl
  have HK := hide h
  have HN := hide hn
  have HSH := hide hsh
  have HI : Hid (bookB Ss Ms Ts B FF = (lawB Ss Ms Ts && (timesB B && (objectsB Ss Ts B FF && (grantsB B && lpsB Ss Ts B))))) := rfl
  have HTI : Hid (timesB B = (inB 0 1000000 B.now && inB 0 1000000 B.tick && inB 0 B.now B.given)) := rfl
  obtain ⟨sa, sc, rfl⟩ := hl.shs.form
  obtain ⟨ma, mc, rfl⟩ := hl.mds.form
  obtain ⟨ta, tc, rfl⟩ := hl.tms.form
  obtain ⟨a0, k0, rfl⟩ := h.obs.form
  obtain ⟨a1, k1, rfl⟩ := h.grs.form
  obtain ⟨a2, k2, rfl⟩ := h.les.form
  obtain ⟨a3, k3, rfl⟩ := h.pus.form
  clear hl h hn hsh
  go_enter Tryz.func6, Tryz.ntmps6
  go_wp2_with fail
  generalize hWa : (World.alloc (w.alloc _) _) = w0
  have HB0 : Hid (Below w.heap.size w w0) := by rw [← hWa]; exact (one_al w _).alloc (by simp) _
  have HX0 : Hid (Box w0 w.heap.size #[.slice sa Ss.length sc, .slice ma Ms.length mc, .slice ta Ts.length tc]) := by rw [← hWa]; exact (Box.new _ _ _ _ rfl).on (one_al _ _)
  have HY0 : Hid (Box w0 (w.heap.size + 1) #[.int .i64 B.now, .int .i64 B.tick, .int .i64 B.given, .slice a0 B.os.length k0, .slice a1 B.gs.length k1, .slice a2 B.ls.length k2, .slice a3 B.ps.length k3]) := by rw [← hWa]; exact Box.new _ _ _ _ (by simp)
  clear hWa
  refine (specLawOk_any lo _ _ _ Ss Ms Ts _ (HL.out.below HB0.out)).mono ?_
  rintro e w1 ⟨rfl, hb⟩
  have HB1 : Hid (Below w.heap.size w w1) := HB0.out.trans (hb.mono HB0.out.size)
  have HX1 := hide (HX0.out.on hb)
  have HY1 := hide (HY0.out.on hb)
  clear hb HB0 HX0 HY0
  have b0 := HY1.out.cell 0
  have b1 := HY1.out.cell 1
  have b2 := HY1.out.cell 2
  simp at b0 b1 b2
  cases h0 : lawB Ss Ms Ts with
  | false =>
    have HE : Hid (bookB Ss Ms Ts B FF = false) := by unfold Hid; rw [HI.out, h0]; rfl
    go_wp2
    go_ret
    exact ⟨ret_bool HE.out.symm, HB1.out⟩
  | true =>
    cases i0 : inB 0 1000000 B.now with
    | false =>
      have HE : Hid (bookB Ss Ms Ts B FF = false) := by unfold Hid; rw [HI.out, h0, HTI.out, i0]; rfl
      go_wp2_with (go_at_call 20; refine (in_any _ _ _ _).mono ?_; rintro e w' ⟨rfl, rfl⟩)
      go_ret
      exact ⟨ret_bool HE.out.symm, HB1.out⟩
    | true =>
      cases i1 : inB 0 1000000 B.tick with
      | false =>
        have HE : Hid (bookB Ss Ms Ts B FF = false) := by unfold Hid; rw [HI.out, h0, HTI.out, i0, i1]; rfl
        go_wp2_with (go_at_call 20; refine (in_any _ _ _ _).mono ?_; rintro e w' ⟨rfl, rfl⟩)
        go_ret
        exact ⟨ret_bool HE.out.symm, HB1.out⟩
      | true =>
        cases i2 : inB 0 B.now B.given with
        | false =>
          have HE : Hid (bookB Ss Ms Ts B FF = false) := by unfold Hid; rw [HI.out, h0, HTI.out, i0, i1, i2]; rfl
          go_wp2_with (go_at_call 20; refine (in_any _ _ _ _).mono ?_; rintro e w' ⟨rfl, rfl⟩)
          go_ret
          exact ⟨ret_bool HE.out.symm, HB1.out⟩
        | true =>
          have HT : Hid (timesB B = true) := by unfold Hid; rw [HTI.out, i0, i1, i2]; rfl
          have l0 := HX1.out.cell 0
          have l1 := HX1.out.cell 1
          have l2 := HX1.out.cell 2
          have b3 := HY1.out.cell 3
          have b4 := HY1.out.cell 4
          have b5 := HY1.out.cell 5
          have b6 := HY1.out.cell 6
          simp at l0 l1 l2 b3 b4 b5 b6
          go_wp2_with (go_at_call 20; refine (in_any _ _ _ _).mono ?_; rintro e w' ⟨rfl, rfl⟩)
          clear l0 l1 l2 b0 b1 b2 b3 b4 b5 b6
          refine (specObjects_any lo _ _ _ _ _ _ _ Ss Ms Ts B FF _ (HL.out.below HB1.out) (law_mends h0) (HK.out.below HB1.out) HN.out.1 HSH.out).mono ?_
          rintro e w2 ⟨rfl, hb⟩
          have HB2 : Hid (Below w.heap.size w w2) := HB1.out.trans (hb.mono HB1.out.size)
          have HX2 := hide (HX1.out.on hb)
          have HY2 := hide (HY1.out.on hb)
          clear hb HB1 HX1 HY1
          cases h1 : objectsB Ss Ts B FF with
          | false =>
            have HE : Hid (bookB Ss Ms Ts B FF = false) := by unfold Hid; rw [HI.out, h0, HT.out, h1]; rfl
            go_wp2
            go_ret
            exact ⟨ret_bool HE.out.symm, HB2.out⟩
          | true =>
            have l0 := HX2.out.cell 0
            have l1 := HX2.out.cell 1
            have l2 := HX2.out.cell 2
            have b0 := HY2.out.cell 0
            have b1 := HY2.out.cell 1
            have b2 := HY2.out.cell 2
            have b3 := HY2.out.cell 3
            have b4 := HY2.out.cell 4
            have b5 := HY2.out.cell 5
            have b6 := HY2.out.cell 6
            simp at l0 l1 l2 b0 b1 b2 b3 b4 b5 b6
            go_wp2_with fail
            clear l0 l1 l2 b0 b1 b2 b3 b4 b5 b6
            refine (specGrants_any lo _ _ _ _ B _ (HK.out.below HB2.out)).mono ?_
            rintro e w3 ⟨rfl, hb⟩
            have HB3 : Hid (Below w.heap.size w w3) := HB2.out.trans (hb.mono HB2.out.size)
            have HX3 := hide (HX2.out.on hb)
            have HY3 := hide (HY2.out.on hb)
            clear hb HB2 HX2 HY2
            cases h2 : grantsB B with
            | false =>
              have HE : Hid (bookB Ss Ms Ts B FF = false) := by unfold Hid; rw [HI.out, h0, HT.out, h1, h2]; rfl
              go_wp2
              go_ret
              exact ⟨ret_bool HE.out.symm, HB3.out⟩
            | true =>
              have l0 := HX3.out.cell 0
              have l1 := HX3.out.cell 1
              have l2 := HX3.out.cell 2
              have b0 := HY3.out.cell 0
              have b1 := HY3.out.cell 1
              have b2 := HY3.out.cell 2
              have b3 := HY3.out.cell 3
              have b4 := HY3.out.cell 4
              have b5 := HY3.out.cell 5
              have b6 := HY3.out.cell 6
              simp at l0 l1 l2 b0 b1 b2 b3 b4 b5 b6
              go_wp2_with fail
              clear l0 l1 l2 b0 b1 b2 b3 b4 b5 b6
              refine (specSums_any lo _ _ _ _ _ _ _ Ss Ms Ts B _ (HL.out.below HB3.out) (HK.out.below HB3.out) HN.out.1 (times_tick HT.out)).mono ?_
              rintro e w4 ⟨rfl, hb⟩
              have HB4 : Hid (Below w.heap.size w w4) := HB3.out.trans (hb.mono HB3.out.size)
              have HX4 := hide (HX3.out.on hb)
              have HY4 := hide (HY3.out.on hb)
              clear hb HB3 HX3 HY3
              have HE : Hid (bookB Ss Ms Ts B FF = lpsB Ss Ts B) := by unfold Hid; rw [HI.out, h0, HT.out, h1, h2]; rfl
              go_wp2
              go_ret
              exact ⟨ret_bool HE.out.symm, HB4.out⟩
end
end Go.Proofs.YtlicfainajkihaaGreat

namespace Go.Proofs.YtlicfainajkihaaGreat
open Go.RowKit Go.Deep

set_option maxRecDepth 20000 in
set_option maxHeartbeats 8000000 in
theorem law_book (sv mv tv ov gv lv pv : Value) (Ss : List Sh) (Ms : List Md) (Ts : List Tm) (B : Bk) (w : World)
    (hL : LawAt 0 w sv mv tv Ss Ms Ts) (hB : BookAt 0 w ov gv lv pv B) :
    Calls Tryz.prog 3 #[.agg #[sv, mv, tv], .agg #[.int .i64 B.now, .int .i64 B.tick, .int .i64 B.given, ov, gv, lv, pv]] w fun e w' => e = .returned (.bool true) ∧ Below w.heap.size w w' := by
  obtain ⟨FF, hFF⟩ := ShapesTo.exists Ss Ms B.os
  have HSH := hide hFF
  clear hFF
  have HL := hide hL
  have HK := hide hB
  obtain ⟨a, cap, rfl⟩ := hL.shs.form
  obtain ⟨a1, cap1, rfl⟩ := hL.mds.form
  obtain ⟨a2, cap2, rfl⟩ := hL.tms.form
  obtain ⟨oa0, oc0, rfl⟩ := hB.obs.form
  obtain ⟨oa1, oc1, rfl⟩ := hB.grs.form
  obtain ⟨oa2, oc2, rfl⟩ := hB.les.form
  obtain ⟨oa3, oc3, rfl⟩ := hB.pus.form
  clear hL hB
  go_enter Tryz.func3, Tryz.ntmps3
  go_wp2_with fail
  generalize hWa : (World.alloc (w.alloc _) _) = Wa
  have HBa : Hid (Below w.heap.size w Wa) := by rw [← hWa]; exact (one_al w _).alloc (by simp) _
  have FA : Hid (Box Wa w.heap.size #[.slice a Ss.length cap, .slice a1 Ms.length cap1, .slice a2 Ts.length cap2]) := by rw [← hWa]; exact (Box.new _ _ _ _ rfl).on (one_al _ _)
  have FB : Hid (Box Wa (w.heap.size + 1) #[.int .i64 B.now, .int .i64 B.tick, .int .i64 B.given, .slice oa0 B.os.length oc0, .slice oa1 B.gs.length oc1, .slice oa2 B.ls.length oc2, .slice oa3 B.ps.length oc3]) := by rw [← hWa]; exact Box.new _ _ _ _ (by simp)
  clear hWa
  refine (szLaw_any 0 _ _ _ Ss Ms Ts _ _ (by omega) (by omega) (HL.out.below HBa.out)).mono ?_
  rintro e w1 ⟨q, rfl, hb1, hr0, hr1, hr2⟩
  have HB1 : Hid (Below w.heap.size w w1) := bt HBa.out hb1
  replace FA := hide (FA.out.on hb1)
  replace FB := hide (FB.out.on hb1)
  have HQ := hide hr2
  clear hb1 hr2 HBa
  by_cases hneg : q < 0
  · go_wp2
    go_ret
    exact ⟨rfl, HB1.out⟩
  have hLm : Hid (LawSmall Ss Ms Ts) := HQ.out (by omega)
  clear HQ hr0
  have g1 := FB.out.cell
  have gm := FB.out.lt
  go_wp2_with fail
  clear g1 gm
  refine (szBook_any 0 _ _ _ _ B _ _ (by omega) (by omega) (HK.out.below HB1.out)).mono ?_
  rintro e w2 ⟨q2, rfl, hb2, hr0, hr2, hr3⟩
  have HB3 : Hid (Below w.heap.size w w2) := bt HB1.out hb2
  replace FA := hide (FA.out.on hb2)
  replace FB := hide (FB.out.on hb2)
  have HQ := hide hr3
  clear hb2 hr3 HB1
  by_cases hneg2 : q2 < 0
  · go_wp2
    go_ret
    exact ⟨rfl, HB3.out⟩
  have hBm : Hid (BookSmall B) := HQ.out (by omega)
  clear HQ hr0 hr1 hr2 hneg
  go_wp2
  clear hneg2
  have HL3 := hide (HL.out.below HB3.out)
  have HK3 := hide (HK.out.below HB3.out)
  go_region_held3 (Held2 w2 w.heap.size #[.slice a Ss.length cap, .slice a1 Ms.length cap1, .slice a2 Ts.length cap2] (w.heap.size + 1) #[.int .i64 B.now, .int .i64 B.tick, .int .i64 B.given, .slice oa0 B.os.length oc0, .slice oa1 B.gs.length oc1, .slice oa2 B.ls.length oc2, .slice oa3 B.ps.length oc3])
    (first
      | (with_reducible exact Held2.drew FA.out FB.out)
      | (with_reducible exact Held2.on (by assumption) (by assumption)))
    (first
      | (go_at_call 7
         refine (toLaw_any 0 _ _ _ Ss Ms Ts _ (HL3.out.below ((Below.refl _ _).drew)) hLm.out).mono ?_
         rintro e w4 ⟨b, c0, b1, c1, b2, c2, rfl, hb4, hs4⟩
         have HC4 : Hid (Below w2.heap.size w2 w4) := bt ((Below.refl _ _).drew) hb4
         have HS4 := hide (hs4.mono (Nat.zero_le _))
         clear hs4)
      | (go_at_call 8
         refine (toBook_any 0 _ _ _ _ B _ (HK3.out.below HC4.out) hBm.out).mono ?_
         rintro e w5 ⟨x0, y0, x1, y1, x2, y2, x3, y3, rfl, hb5, hk5⟩
         have HC5 : Hid (Below w2.heap.size w2 w5) := bt HC4.out hb5
         have HS45 := hide (HS4.out.below hb5)
         have HK5 := hide (hk5.mono (Nat.zero_le _))
         clear hk5)
      | (go_at_call 6
         refine (specBook_any 0 _ _ _ _ _ _ _ Ss Ms Ts B FF _ HS45.out HK5.out hBm.out HSH.out).mono ?_
         rintro e w7 ⟨rfl, hb7⟩
         have HC7 : Hid (Below w2.heap.size w2 w7) := bt HC5.out hb7))
  replace FA := hide (FA.out.on HC7.out)
  replace FB := hide (FB.out.on HC7.out)
  have HB7 : Hid (Below w.heap.size w w7) := bt HB3.out HC7.out
  clear HB3 HC4 HC5 HC7 HS4 HS45 HK5 HL3 HK3
  have g0 := FA.out.cell
  have gl := FA.out.lt
  go_wp2_with fail
  clear g0 gl
  refine (toLaw_any 0 _ _ _ Ss Ms Ts _ (HL.out.below HB7.out) hLm.out).mono ?_
  rintro e w8 ⟨b, c0, b1, c1, b2, c2, rfl, hb8, hs8⟩
  have HB8 : Hid (Below w.heap.size w w8) := bt HB7.out hb8
  have HS8 := hide (hs8.mono (Nat.zero_le _))
  replace FA := hide (FA.out.on hb8)
  replace FB := hide (FB.out.on hb8)
  clear hb8 hs8 HB7
  have g0 := FB.out.cell
  have gl := FB.out.lt
  have g1 : ∀ o i, (w8.alloc o).cell? ⟨w.heap.size + 1, i, none⟩ = _ := fun o i => (cell_alloc_lt _ _ _ _ gl).trans (g0 i)
  go_wp2_with fail
  clear g0 gl g1
  generalize hWx : w8.alloc _ = Wx
  have hbx : Below w8.heap.size w8 Wx := by rw [← hWx]; exact one_al _ _
  have FX : Hid (Box Wx w8.heap.size #[.slice b Ss.length c0, .slice b1 Ms.length c1, .slice b2 Ts.length c2]) := by rw [← hWx]; exact Box.new _ _ _ _ rfl
  have HBx : Hid (Below w.heap.size w Wx) := bt HB8.out hbx
  replace FA := hide (FA.out.on hbx)
  replace FB := hide (FB.out.on hbx)
  replace HS8 := hide (HS8.out.below hbx)
  clear hWx hbx HB8
  generalize hbeta : w8.heap.size = β at *
  refine (toBook_any 0 _ _ _ _ B _ (HK.out.below HBx.out) hBm.out).mono ?_
  rintro e w9 ⟨x0, y0, x1, y1, x2, y2, x3, y3, rfl, hb9, hk9⟩
  have HB9 : Hid (Below w.heap.size w w9) := bt HBx.out hb9
  have HK9 := hide (hk9.mono (Nat.zero_le _))
  replace HS8 := hide (HS8.out.below hb9)
  replace FA := hide (FA.out.on hb9)
  replace FB := hide (FB.out.on hb9)
  replace FX := hide (FX.out.on hb9)
  clear hb9 hk9 HBx
  have g0 := FX.out.cell
  have gl := FX.out.lt
  have g1 : ∀ o i, (w9.alloc o).cell? ⟨β, i, none⟩ = _ := fun o i => (cell_alloc_lt _ _ _ _ gl).trans (g0 i)
  go_wp2_with fail
  clear g0 gl g1
  generalize hWx : w9.alloc _ = Wy
  have hbx : Below w9.heap.size w9 Wy := by rw [← hWx]; exact one_al _ _
  have FY : Hid (Box Wy w9.heap.size #[.int .i64 B.now, .int .i64 B.tick, .int .i64 B.given, .slice x0 B.os.length y0, .slice x1 B.gs.length y1, .slice x2 B.ls.length y2, .slice x3 B.ps.length y3]) := by rw [← hWx]; exact Box.new _ _ _ _ rfl
  have HBy : Hid (Below w.heap.size w Wy) := bt HB9.out hbx
  replace FA := hide (FA.out.on hbx)
  replace FB := hide (FB.out.on hbx)
  replace FX := hide (FX.out.on hbx)
  replace HS8 := hide (HS8.out.below hbx)
  replace HK9 := hide (HK9.out.below hbx)
  clear hWx hbx HB9
  generalize hgamma : w9.heap.size = γ at *
  refine (implBook_any 0 _ _ _ _ _ _ _ Ss Ms Ts B FF _ HS8.out HK9.out hBm.out HSH.out).mono ?_
  rintro e wb ⟨rfl, hbb⟩
  have HBb : Hid (Below w.heap.size w wb) := bt HBy.out hbb
  replace FA := hide (FA.out.on hbb)
  replace FB := hide (FB.out.on hbb)
  replace FX := hide (FX.out.on hbb)
  replace FY := hide (FY.out.on hbb)
  replace HS8 := hide (HS8.out.below hbb)
  replace HK9 := hide (HK9.out.below hbb)
  clear hbb HBy
  generalize hQ : bookB Ss Ms Ts B FF = Q
  clear hQ
  have HLb := hide (HL.out.below HBb.out)
  go_wp2
  go_region_held3 (Held2 wb β #[.slice b Ss.length c0, .slice b1 Ms.length c1, .slice b2 Ts.length c2] w.heap.size #[.slice a Ss.length cap, .slice a1 Ms.length cap1, .slice a2 Ts.length cap2])
    (first
      | (with_reducible exact Held2.drew FX.out FA.out)
      | (with_reducible exact Held2.on (by assumption) (by assumption)))
    (first
      | (go_at_call 7
         refine (toLaw_any 0 _ _ _ Ss Ms Ts _ (HLb.out.below ((Below.refl _ _).drew)) hLm.out).mono ?_
         rintro e we ⟨d, f0, d1, f1, d2, f2, rfl, hbe, hse⟩
         have HC8 : Hid (Below wb.heap.size wb we) := bt ((Below.refl _ _).drew) hbe
         have HSe := hide hse
         clear hse)
      | (go_at_call 10
         refine (eqLaw_same _ _ _ _ Ss Ms Ts _ _ _ _ _ (HS8.out.below HC8.out) HSe.out).mono ?_
         rintro e wf ⟨rfl, hbf⟩
         have HC9 : Hid (Below wb.heap.size wb wf) := bt HC8.out hbf))
  have HBf : Hid (Below w.heap.size w wf) := bt HBb.out HC9.out
  replace FB := hide (FB.out.on HC9.out)
  replace FY := hide (FY.out.on HC9.out)
  replace HK9 := hide (HK9.out.below HC9.out)
  clear HBb HC8 HSe HC9 HLb HS8 FX FA
  have HKf := hide (HK.out.below HBf.out)
  go_wp2
  go_region_held3 (Held2 wf γ #[.int .i64 B.now, .int .i64 B.tick, .int .i64 B.given, .slice x0 B.os.length y0, .slice x1 B.gs.length y1, .slice x2 B.ls.length y2, .slice x3 B.ps.length y3] (w.heap.size + 1) #[.int .i64 B.now, .int .i64 B.tick, .int .i64 B.given, .slice oa0 B.os.length oc0, .slice oa1 B.gs.length oc1, .slice oa2 B.ls.length oc2, .slice oa3 B.ps.length oc3])
    (first
      | (with_reducible exact Held2.drew FY.out FB.out)
      | (with_reducible exact Held2.on (by assumption) (by assumption)))
    (first
      | (go_at_call 8
         refine (toBook_any 0 _ _ _ _ B _ (HKf.out.below ((Below.refl _ _).drew)) hBm.out).mono ?_
         rintro e wg ⟨z0, t0, z1, t1, z2, t2, z3, t3, rfl, hbg, hkg⟩
         have HC10 : Hid (Below wf.heap.size wf wg) := bt ((Below.refl _ _).drew) hbg
         have HKg := hide hkg
         clear hkg)
      | (go_at_call 11
         refine (eqBook_same _ _ _ _ _ B _ _ _ _ _ _ (HK9.out.below HC10.out) HKg.out).mono ?_
         rintro e wh ⟨rfl, hbh⟩
         have HC11 : Hid (Below wf.heap.size wf wh) := bt HC10.out hbh))
  go_wp2
  go_ret
  exact ⟨rfl, bt HBf.out HC11.out⟩
end Go.Proofs.YtlicfainajkihaaGreat

namespace Go.Proofs.YtlicfainajkihaaGreat
open Go.ChangeShapes Go.WideShapes Go.ChangeAt Go.RowKit Go.Deep
open Go.ChangeMaps (open_string shut_string)

set_option maxRecDepth 100000 in
theorem book_lifted (os : Os) (started : os.Started) (H : Type) (enc : TypeId × Value → H) :
    ReturnsInHanded {} Tryz.checked os 3 .any (Rows.fnExactGateBookOkSpec.pre6 enc Tryz.prog Tryz.f3 Rows.fnExactGateBookOkRow.domain false) (Rows.fnExactGateBookOkSpec.post enc Tryz.prog Tryz.f3 false true false false) := by
  refine returnsInHanded_of_change (C := Tryz.checked) Tryz.own started (by kernel_rfl) Tryz.func3
    (ChangeSpec.witness6 (enc := enc) (C := Tryz.checked) false ⟨#[], #[.agg #[.slice none 0 0, .slice none 0 0, .slice none 0 0], .agg #[.int .i64 0, .int .i64 0, .int .i64 0, .slice none 0 0, .slice none 0 0, .slice none 0 0, .slice none 0 0]], []⟩ 8 (by kernel_rfl) (by kernel_rfl) (by kernel_rfl) (by kernel_rfl)) ?_
  intro W base args ds gs before hval0 hW hcnd _
  have hval : ∀ (j : Nat) t v, Tryz.f3.params[j]? = some t → args[j]? = some v → Value.okWide Tryz.prog W .any base t v := hval0
  have hW' := hW
  obtain ⟨p, q, hA0, hV, rfl, hfz, hnd⟩ := hW
  have hA : DataW.TrodAll enc Tryz.prog W 0 (fun _ => true) true Tryz.f3.params.toList args.toList ds p := hA0
  rw [Tryz.params3] at hA hval
  obtain ⟨v0, v1, d0, d1, p0, p1, rfl, rfl, rfl, h0, h1⟩ := trodAll_two hA
  obtain ⟨rfl, rfl⟩ := trodVars_none hV
  have h0k := h0
  have h1k := h1
  clear hA0 hval0
  simp only [List.append_nil] at hW'
  have hlt0 : ∀ x ∈ p0, x.block < W.heap.size := fun x hx => by simpa using hW'.lt x (by simp [hx])
  have hlt1 : ∀ x ∈ p1, x.block < W.heap.size := fun x hx => by simpa using hW'.lt x (by simp [hx])
  obtain ⟨sv, mv, tv, Ss, Ms, Ts, rfl, hL⟩ := open_law (hval 0 26 v0 rfl rfl) h0
  obtain ⟨ov, gv, lv, pv, B, rfl, hB⟩ := open_book (hval 1 32 v1 rfl rfl) h1
  refine (law_book _ _ _ _ _ _ _ Ss Ms Ts B W hL hB).mono fun e W' ⟨he, hb⟩ => ?_
  subst he
  have hargs0 := Below.trod Tryz.laidOut (by kernel_rfl) (of_decide_eq_true (by kernel_rfl)) h0k hb hlt0
  have hargs1 := Below.trod Tryz.laidOut (by kernel_rfl) (of_decide_eq_true (by kernel_rfl)) h1k hb hlt1
  exact ⟨_, rfl, ⟨_, _, _, [], _, [], hW', trodAll_mk1 (shut_bool Tryz.underlying4 true), trodAll_mk2 hargs0 hargs1, rfl, hb.frame _, fun h => by cases h⟩⟩

theorem book_holds : Rows.FnExactGateBookOkSaid :=
  OpenClaim.holds_of_wide 3 Tryz.f3 rfl rfl rfl rfl rfl rfl rfl ⟨rfl, rfl, rfl, rfl, rfl⟩ rfl rfl rfl rfl rfl (by kernel_rfl) Tryz.func3 (by kernel_rfl)
    (of_decide_eq_true (by kernel_rfl)) (by unfold Func.isWrapper; first | (rw [if_pos (by decide +kernel)]; kernel_rfl) | (rw [if_neg (by decide +kernel)]; exact ⟨rfl, rfl⟩))
    (fun os started H enc _ => book_lifted os started H enc)
end Go.Proofs.YtlicfainajkihaaGreat

