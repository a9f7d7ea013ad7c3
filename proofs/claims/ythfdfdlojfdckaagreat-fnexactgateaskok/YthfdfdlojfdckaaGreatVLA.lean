import Derived.Test.YthfdfdlojfdckaaGreatVN2
import Derived.Test.YthfdfdlojfdckaaGreatVTA
import Derived.Test.YthfdfdlojfdckaaGreatVDA
import Derived.RangeFuncNested
import Derived.RangeFuncBound
import Derived.RangeFuncCalls
import Derived.RangeFuncLeaves
import Derived.Shelf.Abstract
import Derived.Shelf.RegionOpen
import Derived.WalkKit
import Derived.OwnWalkIn
import Derived.TacticsInMore
import Derived.LoopNIn
import Derived.LoopIn
import Derived.Test.YthfdfdlojfdckaaGreatVB1
import Derived.Test.YthfdfdlojfdckaaGreatVA1
import Derived.Test.YthfdfdlojfdckaaGreatVP1
import Derived.Test.YthfdfdlojfdckaaGreatVNA
namespace Go.Proofs.YthfdfdlojfdckaaGreat
open Go.RowKit Go.Deep

theorem ShsAt.set' {lo : Nat} {w : World} {v : Value} {Ss : List Sh} (h : ShsAt lo w v Ss) {p : Addr} (hp : p.block < lo) (u : Value) : ShsAt lo (w.setCell p u) v Ss := by
  rcases h with h | ⟨b, off, cap, h1, h2, h3, h4, h5, h7⟩
  · exact Or.inl h
  · refine Or.inr ⟨b, off, cap, h1, h2, h3, by simpa [World.setCell] using h4, h5, fun i hi => ?_⟩
    obtain ⟨hs, fv, c0, c1, hF⟩ := h7 i hi
    exact ⟨hs, fv, by rw [cell_setCell_ne _ _ _ _ (by simp only []; omega)]; exact c0, by rw [cell_setCell_ne _ _ _ _ (by simp only []; omega)]; exact c1, hF.setCell hp u⟩

/-- a law in memory, all of it above lo -/
structure LawAt (lo : Nat) (w : World) (sv mv tv : Value) (Ss : List Sh) (Ms : List Md) (Ts : List Tm) : Prop where
  shs : ShsAt lo w sv Ss
  mds : MdsAt lo w mv Ms
  tms : TmsAt lo w tv Ts
theorem LawAt.below {lo : Nat} {w w' : World} {sv mv tv : Value} {Ss : List Sh} {Ms : List Md} {Ts : List Tm} (h : LawAt lo w sv mv tv Ss Ms Ts) (hb : Below w.heap.size w w') : LawAt lo w' sv mv tv Ss Ms Ts :=
  ⟨h.shs.below hb, h.mds.below hb, h.tms.below hb⟩
theorem LawAt.mono {lo lo' : Nat} {w : World} {sv mv tv : Value} {Ss : List Sh} {Ms : List Md} {Ts : List Tm} (h : LawAt lo w sv mv tv Ss Ms Ts) (hl : lo' ≤ lo) : LawAt lo' w sv mv tv Ss Ms Ts :=
  ⟨h.shs.mono hl, h.mds.mono hl, h.tms.mono hl⟩
def LawSmall (Ss : List Sh) (Ms : List Md) (Ts : List Tm) : Prop := ShsSmall Ss ∧ Ms.length ≤ 1048576 ∧ Ts.length ≤ 1048576

section
variable (lo : Nat) (sv mv tv : Value) (Ss : List Sh) (Ms : List Md) (Ts : List Tm) (w : World)

set_option maxHeartbeats 1000000 in
theorem szLaw_any (left : Int) (h0 : 0 ≤ left) (h1 : left ≤ 1048576) (h : LawAt lo w sv mv tv Ss Ms Ts) :
    Calls Tryz.prog 5 #[.agg #[sv, mv, tv], .int .i64 left] w
      fun e w' => ∃ r : Int, e = .returned (.int .i64 r) ∧ Below w.heap.size w w' ∧ -1 ≤ r ∧ r ≤ left ∧ (0 ≤ r → LawSmall Ss Ms Ts) := by
  have HL := hide h
  obtain ⟨a, cap, rfl⟩ := h.shs.form
  obtain ⟨a1, cap1, rfl⟩ := h.mds.form
  obtain ⟨a2, cap2, rfl⟩ := h.tms.form
  clear h
  go_enter Tryz.func5, Tryz.ntmps5
  go_wp2_with fail
  have hX := Box.new w #[.slice a Ss.length cap, .slice a1 Ms.length cap1, .slice a2 Ts.length cap2] 26 _ rfl
  have hB0 := one_al w (.cells #[.slice a Ss.length cap, .slice a1 Ms.length cap1, .slice a2 Ts.length cap2] 26)
  refine (szShs_any lo _ Ss _ _ (by omega) (by omega) (HL.out.below hB0).shs).mono ?_
  rintro e w1 ⟨r, rfl, hb1, q0, q1, q2⟩
  have hX1 := hide (hX.on hb1)
  have HB1 := hide (hB0.trans (hb1.mono hB0.size))
  have c1 := hX1.out.cell 1
  have c2 := hX1.out.cell 2
  simp at c1 c2
  clear hb1 hB0 hX
  have Q := hide q2
  clear q2
  by_cases hr : r < 0
  · go_wp2
    go_ret
    exact ⟨-1, rfl, HB1.out, by omega, by omega, fun h => by omega⟩
  go_wp2_with fail
  refine (szMds_any lo _ Ms _ _ (by omega) (by omega) (HL.out.below HB1.out).mds).mono ?_
  rintro e w2 ⟨r2, rfl, hb2, p0, p1, p2⟩
  have hX2 := hide (hX1.out.on hb2)
  have HB2 := hide (HB1.out.trans (hb2.mono HB1.out.size))
  have d2 := hX2.out.cell 2
  simp at d2
  clear hb2 HB1 hX1 c1 c2
  have Q2 := hide p2
  clear p2
  by_cases hr2 : r2 < 0
  · go_wp2
    go_ret
    exact ⟨-1, rfl, HB2.out, by omega, by omega, fun h => by omega⟩
  go_wp2_with fail
  refine (szTms_any lo _ Ts _ _ (by omega) (by omega) (HL.out.below HB2.out).tms).mono ?_
  rintro e w3 ⟨r3, rfl, hb3, s0, s1, s2⟩
  have HB3 := hide (HB2.out.trans (hb3.mono HB2.out.size))
  have Q3 := hide s2
  clear hb3 s2
  by_cases hr3 : r3 < 0
  · go_wp2
    go_ret
    exact ⟨-1, rfl, HB3.out, by omega, by omega, fun h => by omega⟩
  go_wp2
  go_ret
  exact ⟨_, rfl, HB3.out, by omega, by omega, fun h => ⟨Q.out (by omega), by have := Q2.out (by omega); omega, by have := Q3.out (by omega); omega⟩⟩

set_option maxHeartbeats 1000000 in
theorem eqLaw_same (lo' : Nat) (sv' mv' tv' : Value) (h : LawAt lo w sv mv tv Ss Ms Ts) (h' : LawAt lo' w sv' mv' tv' Ss Ms Ts) :
    Calls Tryz.prog 13 #[.agg #[sv, mv, tv], .agg #[sv', mv', tv']] w fun e w' => e = .returned (.bool true) ∧ Below w.heap.size w w' := by
  have HL := hide h
  have HR := hide h'
  obtain ⟨a, cap, rfl⟩ := h.shs.form
  obtain ⟨a1, cap1, rfl⟩ := h.mds.form
  obtain ⟨a2, cap2, rfl⟩ := h.tms.form
  obtain ⟨a', cap', rfl⟩ := h'.shs.form
  obtain ⟨a1', cap1', rfl⟩ := h'.mds.form
  obtain ⟨a2', cap2', rfl⟩ := h'.tms.form
  clear h h'
  go_enter Tryz.func13, Tryz.ntmps13
  go_wp2_with fail
  have hX := Box.new w #[.slice a Ss.length cap, .slice a1 Ms.length cap1, .slice a2 Ts.length cap2] 43 _ rfl
  have hB0 := one_al w (.cells #[.slice a Ss.length cap, .slice a1 Ms.length cap1, .slice a2 Ts.length cap2] 43)
  have hsz : (w.alloc (.cells #[.slice a Ss.length cap, .slice a1 Ms.length cap1, .slice a2 Ts.length cap2] 43)).heap.size = w.heap.size + 1 := by simp
  generalize w.alloc (.cells #[.slice a Ss.length cap, .slice a1 Ms.length cap1, .slice a2 Ts.length cap2] 43) = wx at hX hB0 hsz ⊢
  have hY := Box.new wx #[.slice a' Ss.length cap', .slice a1' Ms.length cap1', .slice a2' Ts.length cap2'] 43 _ hsz
  have hB1 := one_al wx (.cells #[.slice a' Ss.length cap', .slice a1' Ms.length cap1', .slice a2' Ts.length cap2'] 43)
  have hX1 := hX.on hB1
  have HB := hide (hB0.trans (hB1.mono hB0.size))
  generalize wx.alloc (.cells #[.slice a' Ss.length cap', .slice a1' Ms.length cap1', .slice a2' Ts.length cap2'] 43) = wy at hY hX1 HB ⊢
  clear hX hB0 hB1 hsz
  refine (eqShs_same lo lo' _ _ Ss _ (HL.out.below HB.out).shs (HR.out.below HB.out).shs).mono ?_
  rintro e w1 ⟨rfl, hb1⟩
  have HX := hide (hX1.on hb1)
  have HY := hide (hY.on hb1)
  have HB1 := hide (HB.out.trans (hb1.mono HB.out.size))
  clear hb1 hX1 hY HB
  have c1 := HX.out.cell 1
  have d1 := HY.out.cell 1
  simp at c1 d1
  go_wp2_with fail
  clear c1 d1
  refine (eqMds_same lo lo' _ _ Ms _ (HL.out.below HB1.out).mds (HR.out.below HB1.out).mds).mono ?_
  rintro e w2 ⟨rfl, hb2⟩
  have HX := hide (HX.out.on hb2)
  have HY := hide (HY.out.on hb2)
  have HB2 := hide (HB1.out.trans (hb2.mono HB1.out.size))
  clear hb2 HB1
  have c1 := HX.out.cell 2
  have d1 := HY.out.cell 2
  simp at c1 d1
  go_wp2_with fail
  clear c1 d1
  refine (eqTms_same lo lo' _ _ Ts _ (HL.out.below HB2.out).tms (HR.out.below HB2.out).tms).mono ?_
  rintro e w3 ⟨rfl, hb3⟩
  have HB3 := hide (HB2.out.trans (hb3.mono HB2.out.size))
  clear hb3 HB2
  go_wp2
  go_ret
  exact ⟨rfl, HB3.out⟩

set_option maxHeartbeats 2000000 in
theorem toLaw_any (h : LawAt lo w sv mv tv Ss Ms Ts) (hn : LawSmall Ss Ms Ts) :
    Calls Tryz.prog 9 #[.agg #[sv, mv, tv]] w
      fun e w' => ∃ a cap a1 cap1 a2 cap2, e = .returned (.agg #[.slice a Ss.length cap, .slice a1 Ms.length cap1, .slice a2 Ts.length cap2]) ∧ Below w.heap.size w w' ∧
        LawAt w.heap.size w' (.slice a Ss.length cap) (.slice a1 Ms.length cap1) (.slice a2 Ts.length cap2) Ss Ms Ts := by
  have HL := hide h
  obtain ⟨a, cap, rfl⟩ := h.shs.form
  obtain ⟨a1, cap1, rfl⟩ := h.mds.form
  obtain ⟨a2, cap2, rfl⟩ := h.tms.form
  clear h
  go_enter Tryz.func9, Tryz.ntmps9
  go_wp2_with fail
  obtain ⟨wz, hwz, HX, HR, HO, HB⟩ : ∃ wz, wz = ((w.alloc (.cells #[.slice a Ss.length cap, .slice a1 Ms.length cap1, .slice a2 Ts.length cap2] 26)).alloc (.cells #[.slice none 0 0, .slice none 0 0, .slice none 0 0] 43)).alloc (.cells #[.slice none 0 0, .slice none 0 0, .slice none 0 0] 43) ∧
      Hid (Box wz w.heap.size #[.slice a Ss.length cap, .slice a1 Ms.length cap1, .slice a2 Ts.length cap2]) ∧ Hid (Box wz (w.heap.size + 1) #[.slice none 0 0, .slice none 0 0, .slice none 0 0]) ∧
      Hid (Box wz (w.heap.size + 1 + 1) #[.slice none 0 0, .slice none 0 0, .slice none 0 0]) ∧ Hid (Below w.heap.size w wz) :=
    ⟨_, rfl, ((Box.new w _ _ _ rfl).on (one_al _ _)).on (one_al _ _), (Box.new _ _ _ _ (by simp)).on (one_al _ _), Box.new _ _ _ _ (by simp), ((one_al _ _).trans ((one_al _ _).mono (by simp))).trans ((one_al _ _).mono (by simp; omega))⟩
  rw [← hwz]
  clear hwz
  have hz0 : w.heap.size + 3 ≤ wz.heap.size := by have := HO.out.lt; omega
  refine (toShs_any lo _ Ss _ (HL.out.below HB.out).shs hn.1).mono ?_
  rintro e w1 ⟨v1, rfl, hb1, hs1⟩
  obtain ⟨b1, k1, rfl⟩ := hs1.form
  have HX1 := hide (HX.out.on hb1)
  have HR1 := hide (HR.out.on hb1)
  have HO1 := hide (HO.out.on hb1)
  have HB1 := hide (HB.out.trans (hb1.mono HB.out.size))
  have HS1 : Hid (ShsAt (w.heap.size + 3) w1 (.slice b1 Ss.length k1) Ss) := hs1.mono hz0
  clear hb1 hs1 HX HR HO HB hz0
  have o0 := HO1.out.cell 0
  have f0 := HO1.out.free 0
  have x1 := HX1.out.cell 1
  simp at o0 f0 x1
  go_wp2_with fail
  clear o0 f0 x1
  obtain ⟨wq, hwq, HX, HR, HO, HB, HS⟩ : ∃ wq, wq = w1.setCell ⟨w.heap.size + 1 + 1, 0, none⟩ (.slice b1 Ss.length k1) ∧
      Hid (Box wq w.heap.size #[.slice a Ss.length cap, .slice a1 Ms.length cap1, .slice a2 Ts.length cap2]) ∧ Hid (Box wq (w.heap.size + 1) #[.slice none 0 0, .slice none 0 0, .slice none 0 0]) ∧
      Hid (Box wq (w.heap.size + 1 + 1) #[.slice b1 Ss.length k1, .slice none 0 0, .slice none 0 0]) ∧ Hid (Below w.heap.size w wq) ∧ Hid (ShsAt (w.heap.size + 3) wq (.slice b1 Ss.length k1) Ss) :=
    ⟨_, rfl, HX1.out.setFar (by simp only []; omega) _, HR1.out.setFar (by simp only []; omega) _, HO1.out.set (k := 0) (.slice b1 Ss.length k1) (by simp), HB1.out.setCell (by simp only []; omega) _, HS1.out.set' (by simp only []; omega) _⟩
  rw [← hwq]
  clear hwq HX1 HR1 HO1 HB1 HS1
  have hz0 : w.heap.size + 3 ≤ wq.heap.size := by have := HO.out.lt; omega
  refine (toMdsO_any lo _ Ms _ (HL.out.below HB.out).mds hn.2.1).mono ?_
  rintro e w2 ⟨v2, rfl, hb2, hs2, -⟩
  obtain ⟨b2, k2, rfl⟩ := hs2.form
  have HX2 := hide (HX.out.on hb2)
  have HR2 := hide (HR.out.on hb2)
  have HO2 := hide (HO.out.on hb2)
  have HB2 := hide (HB.out.trans (hb2.mono HB.out.size))
  have HS2 := hide (HS.out.below hb2)
  have HM2 : Hid (MdsAt (w.heap.size + 3) w2 (.slice b2 Ms.length k2) Ms) := hs2.mono hz0
  clear hb2 hs2 HX HR HO HB hz0 HS
  have o0 := HO2.out.cell 1
  have f0 := HO2.out.free 1
  have x1 := HX2.out.cell 2
  simp at o0 f0 x1
  go_wp2_with fail
  clear o0 f0 x1
  obtain ⟨wq, hwq, HR, HO, HB, HS, HM⟩ : ∃ wq, wq = w2.setCell ⟨w.heap.size + 1 + 1, 1, none⟩ (.slice b2 Ms.length k2) ∧
      Hid (Box wq (w.heap.size + 1) #[.slice none 0 0, .slice none 0 0, .slice none 0 0]) ∧
      Hid (Box wq (w.heap.size + 1 + 1) #[.slice b1 Ss.length k1, .slice b2 Ms.length k2, .slice none 0 0]) ∧ Hid (Below w.heap.size w wq) ∧ Hid (ShsAt (w.heap.size + 3) wq (.slice b1 Ss.length k1) Ss) ∧ Hid (MdsAt (w.heap.size + 3) wq (.slice b2 Ms.length k2) Ms) :=
    ⟨_, rfl, HR2.out.setFar (by simp only []; omega) _, HO2.out.set (k := 1) (.slice b2 Ms.length k2) (by simp), HB2.out.setCell (by simp only []; omega) _, HS2.out.set' (by simp only []; omega) _, HM2.out.setCell (by simp only []; omega) _⟩
  rw [← hwq]
  clear hwq HX2 HR2 HO2 HB2 HS2 HM2
  have hz0 : w.heap.size + 3 ≤ wq.heap.size := by have := HO.out.lt; omega
  refine (toTms_any lo _ Ts _ (HL.out.below HB.out).tms hn.2.2).mono ?_
  rintro e w3 ⟨v3, rfl, hb3, hs3⟩
  obtain ⟨b3, k3, rfl⟩ := hs3.form
  have HR3 := hide (HR.out.on hb3)
  have HO3 := hide (HO.out.on hb3)
  have HB3 := hide (HB.out.trans (hb3.mono HB.out.size))
  have HS3 := hide (HS.out.below hb3)
  have HM3 := hide (HM.out.below hb3)
  have HT3 : Hid (TmsAt (w.heap.size + 3) w3 (.slice b3 Ts.length k3) Ts) := hs3.mono hz0
  clear hb3 hs3 HR HO HB hz0 HS HM
  have o0 := HO3.out.cell 0
  have o1 := HO3.out.cell 1
  have o2 := HO3.out.cell 2
  have f2 := HO3.out.free 2
  have r0 := HR3.out.cell 0
  have r1 := HR3.out.cell 1
  have r2 := HR3.out.cell 2
  have g0 := HR3.out.free 0
  have g1 := HR3.out.free 1
  have g2 := HR3.out.free 2
  simp at o0 o1 o2 r0 r1 r2
  go_wp2
  refine bodyPost_ret (v := .agg #[.slice b1 Ss.length k1, .slice b2 Ms.length k2, .slice b3 Ts.length k3]) (by simp [results, Tryz.results9, go_sem, r0, r1, r2]) rfl ⟨_, _, _, _, _, _, rfl, ?_, ?_, ?_, ?_⟩
  · repeat (refine Below.setCell ?_ (by simp only []; omega) _)
    exact HB3.out
  · refine ShsAt.mono (lo := w.heap.size + 3) ?_ (by omega)
    repeat (refine ShsAt.set' ?_ (by simp only []; omega) _)
    exact HS3.out
  · refine MdsAt.mono (lo := w.heap.size + 3) ?_ (by omega)
    repeat (refine MdsAt.setCell ?_ (by simp only []; omega) _)
    exact HM3.out
  · refine TmsAt.mono (lo := w.heap.size + 3) ?_ (by omega)
    repeat (refine TmsAt.setCell ?_ (by simp only []; omega) _)
    exact HT3.out
end
end Go.Proofs.YthfdfdlojfdckaaGreat

namespace Go.Proofs.YthfdfdlojfdckaaGreat
open Go.RowKit Go.Deep

theorem StrsAt.spread {w : World} {a : Option Addr} {n cap : Nat} {L : List ByteArray} (h : StrsAt w (.slice a n cap) L) (hL : 0 < L.length) :
    ∃ b off, a = some ⟨b, off, none⟩ ∧ b < w.heap.size ∧ (∀ i (h : i < L.length), w.cell? ⟨b, off + i, none⟩ = some (.string L[i])) ∧ ∀ s ∈ L, s.size ≤ maxLen := by
  rcases h with ⟨_, _, _, rfl⟩ | ⟨b, off, _, h1, _, _, h4, h5, h6⟩
  · simp at hL
  · cases h1
    exact ⟨b, off, rfl, h4, h5, h6⟩

theorem decR_bd (s : ByteArray) : 0 ≤ decR s ∧ decR s ≤ 9999999 := by
  unfold decR
  split
  · rename_i h
    have h7 : s.size ≤ 7 ∧ allB digit s = true := by
      unfold decB inB at h
      simp only [Bool.and_eq_true, decide_eq_true_eq] at h
      exact ⟨by omega, h.2⟩
    have := valOf_take_bd s s.size (Nat.le_refl _) h7.1 (by
      rw [List.take_of_length_le (by simp)]
      exact h7.2)
    rw [decV_take (Nat.le_refl _)] at this
    omega
  · omega
theorem decR_num (s : ByteArray) : decR s = if 0 < numV s then numV s else 0 := by
  have := decR_bd s
  unfold decR numV at *
  split
  · rename_i h
    rw [if_pos h] at this
    split <;> omega
  · simp

/-- what a value of a field is of a resource -/
def wone (r : ByteArray) (f : Fd) (s : ByteArray) : Int := if (f.kd == 1 && f.we.toList == r.toList) = true then decR s else 0
/-- what the first k values are together -/
def wsum (r : ByteArray) (Fs : List Fd) (V : List ByteArray) : Nat → Int
  | 0 => 0
  | k + 1 => wsum r Fs V k + (match Fs[k]?, V[k]? with | some f, some s => wone r f s | _, _ => 0)
theorem wone_bd (r : ByteArray) (f : Fd) (s : ByteArray) : 0 ≤ wone r f s ∧ wone r f s ≤ 9999999 := by
  have := decR_bd s
  unfold wone
  split <;> omega
theorem wsum_succ {r : ByteArray} {Fs : List Fd} {V : List ByteArray} {k : Nat} (hf : k < Fs.length) (hv : k < V.length) : wsum r Fs V (k + 1) = wsum r Fs V k + wone r Fs[k] V[k] := by
  rw [wsum]
  simp [hf, hv]
theorem wsum_bd (r : ByteArray) (Fs : List Fd) (V : List ByteArray) (k : Nat) : 0 ≤ wsum r Fs V k ∧ wsum r Fs V k ≤ 9999999 * k := by
  induction k with
  | zero => simp [wsum]
  | succ k ih =>
    rw [wsum]
    split
    · rename_i f s _ _
      have := wone_bd r f s
      push_cast
      omega
    · push_cast
      omega
/-- how much of a resource an object is -/
def weighV (Ss : List Sh) (kind : ByteArray) (V : List ByteArray) (r : ByteArray) : Int :=
  if r.toList.isEmpty = true then 0 else
  match shOf Ss kind with
  | some x => if x.fields.length = V.length then (if (r.toList == kind.toList) = true then 1 else 0) + wsum r x.fields V V.length else 0
  | none => 0
theorem weigh_no {Ss : List Sh} {kind : ByteArray} {V : List ByteArray} {r : ByteArray} (h : ∀ x, shOf Ss kind = some x → x.fields.length ≠ V.length) : weighV Ss kind V r = 0 := by
  unfold weighV
  split
  · rfl
  · cases hs : shOf Ss kind with
    | none => rfl
    | some x => simp [h x hs]
theorem weigh_nil {Ss : List Sh} {kind : ByteArray} {V : List ByteArray} {r : ByteArray} (h : r.toList.isEmpty = true) : weighV Ss kind V r = 0 := by
  unfold weighV
  rw [if_pos h]
theorem weigh_yes {Ss : List Sh} {kind : ByteArray} {V : List ByteArray} {r : ByteArray} {x : Sh} (h : shOf Ss kind = some x) (hl : x.fields.length = V.length) (hr : r.toList.isEmpty = false) :
    weighV Ss kind V r = (if (r.toList == kind.toList) = true then 1 else 0) + wsum r x.fields V V.length := by
  unfold weighV
  rw [h]
  simp [hr, hl]
section
variable (lo : Nat) (sv mv tv : Value) (Ss : List Sh) (Ms : List Md) (Ts : List Tm) (kind nm team : ByteArray) (vv hv : Value) (en : Bool) (ver : Int) (V Ho : List ByteArray) (r : ByteArray) (w : World)

set_option maxRecDepth 20000 in
set_option maxHeartbeats 2000000 in
theorem specWeighs_any (h : LawAt lo w sv mv tv Ss Ms Ts) (hV : StrsAt w vv V) (hH : StrsAt w hv Ho) (n1 : V.length ≤ 1048576) :
    Calls Tryz.prog 143 #[.agg #[sv, mv, tv], .agg #[.string kind, .string nm, .string team, vv, .bool en, hv, .int .i64 ver], .string r] w
      fun e w' => e = .returned (.int .i64 (weighV Ss kind V r)) ∧ Below w.heap.size w w' := by
  have HL := hide h
  have HV := hide hV
  have HH := hide hH
  obtain ⟨a, cap, rfl⟩ := h.shs.form
  obtain ⟨a1, cap1, rfl⟩ := h.mds.form
  obtain ⟨a2, cap2, rfl⟩ := h.tms.form
  obtain ⟨va, vcap, rfl⟩ := hV.form'
  obtain ⟨ha, hcap, rfl⟩ := hH.form'
  clear h hV hH
  go_enter Tryz.func143, Tryz.ntmps143
  go_wp2_with fail
  obtain ⟨wz, hwz, HO, HB⟩ : ∃ wz, wz = (w.alloc (.cells #[.slice a Ss.length cap, .slice a1 Ms.length cap1, .slice a2 Ts.length cap2] 43)).alloc (.cells #[.string kind, .string nm, .string team, .slice va V.length vcap, .bool en, .slice ha Ho.length hcap, .int .i64 ver] 135) ∧
      Hid (Box wz (w.heap.size + 1) #[.string kind, .string nm, .string team, .slice va V.length vcap, .bool en, .slice ha Ho.length hcap, .int .i64 ver]) ∧ Hid (Below w.heap.size w wz) :=
    ⟨_, rfl, Box.new _ _ _ _ (by simp), (one_al _ _).trans ((one_al _ _).mono (by simp))⟩
  rw [← hwz]
  clear hwz
  refine (l2Fields_any kind nm team _ _ _ en ver V Ho Ss wz lo wz (HL.out.below HB.out).shs (Below.refl _ _) (HV.out.below HB.out) (HH.out.below HB.out)).mono ?_
  rintro e w1 ⟨hb1, hq⟩
  have HO1 := hide (HO.out.on hb1)
  have HB1 := hide (HB.out.trans (hb1.mono HB.out.size))
  rcases hq with ⟨x, fv, hsh, hlen, rfl, hF⟩ | ⟨hno, fa, fcap, rfl⟩
  · have HF := hide (hF.below hb1)
    obtain ⟨fa, fcap, rfl⟩ := hF.form
    have HS := hide hsh
    have HN := hide hlen
    clear hb1 hF hsh HO HB hlen
    cases hr : r.toList.isEmpty with
    | true =>
      have HQ := hide (weigh_nil (Ss := Ss) (kind := kind) (V := V) hr)
      go_wp2
      go_ret
      exact ⟨ret_int HQ.out.symm, HB1.out⟩
    | false =>
      have HQ := hide (weigh_yes HS.out HN.out hr)
      have hbd := wsum_bd r x.fields V
      have HBD := hide hbd
      have o0 := HO1.out.cell 0
      have o3 := HO1.out.cell 3
      simp at o0 o3
      have hvl : x.fields.length ≤ 1048576 := by have := HN.out; omega
      have HV1 := hide (HV.out.below HB1.out)
      clear hbd
      cases hk : (r.toList == kind.toList) with
      | true =>
        have HE : Hid (weighV Ss kind V r = 1 + wsum r x.fields V V.length) := by unfold Hid; rw [HQ.out, hk]; rfl
        go_wp2
        go_loop [9, 10] (fun n i => ∃ k : Nat, n = .int .i64 (1 + wsum r x.fields V k) ∧ i = .int .i64 k ∧ k ≤ x.fields.length) (fun _ i => x.fields.length - (intOf i).toNat)
        case atStart => exact ⟨0, by simp [wsum], rfl, by omega⟩
        case round =>
          obtain ⟨k, rfl, rfl, hkl⟩ := hrel
          by_cases hlt : k < x.fields.length
          · have hlv : k < V.length := by have := HN.out; omega
            obtain ⟨fb, foff, rfl, hfb, hfc⟩ := HF.out.full' (by omega)
            obtain ⟨hsz, wv, hcell, -⟩ := hfc k hlt
            obtain ⟨c0, c1, c2, c3, c4, c5, c6, c7, c8, c9, c10⟩ := hcell
            obtain ⟨vb, voff, rfl, hvb, hvc, hvs⟩ := HV1.out.spread (by omega)
            have hvk := hvc k hlv
            have hvz : V[k].size ≤ maxLen := hvs _ (List.getElem_mem hlv)
            have HST := hide (wsum_succ (r := r) hlt hlv)
            have HDN := hide (decR_num V[k])
            have hbd := HBD.out k
            have hbn := decR_bd V[k]
            have hW : wone r x.fields[k] V[k] = if (x.fields[k].kd == 1 && x.fields[k].we.toList == r.toList) = true then decR V[k] else 0 := rfl
            have HW := hide hW
            clear hfc hvc hvs c0 c2 c3 c4 c5 c6 c7 c8 c9 hsz hW
            cases hk1 : (x.fields[k].kd == 1) with
            | false =>
              have HE2 : Hid (wsum r x.fields V (k + 1) = wsum r x.fields V k) := by unfold Hid; rw [HST.out, HW.out, hk1]; simp
              go_wp2_with (go_at_call 178; refine (l1Number_any _ _ hvz).mono ?_; rintro e w2 ⟨rfl, rfl⟩)
              go_round
              case rel => exact ⟨k + 1, by rw [HE2.out], by go_num, by omega⟩
              case measure => simp [intOf]; omega
            | true =>
              cases hk2 : (x.fields[k].we.toList == r.toList) with
              | false =>
                have HE2 : Hid (wsum r x.fields V (k + 1) = wsum r x.fields V k) := by unfold Hid; rw [HST.out, HW.out, hk1, hk2]; simp
                go_wp2_with (go_at_call 178; refine (l1Number_any _ _ hvz).mono ?_; rintro e w2 ⟨rfl, rfl⟩)
                go_round
                case rel => exact ⟨k + 1, by rw [HE2.out], by go_num, by omega⟩
                case measure => simp [intOf]; omega
              | true =>
                by_cases hn : 0 < numV V[k]
                · have HE2 : Hid (wsum r x.fields V (k + 1) = wsum r x.fields V k + numV V[k]) := by unfold Hid; rw [HST.out, HW.out, hk1, hk2, HDN.out, if_pos hn]; simp
                  have hb2 := HBD.out (k + 1)
                  rw [HE2.out] at hb2
                  push_cast at hb2
                  go_wp2_with (go_at_call 178; refine (l1Number_any _ _ hvz).mono ?_; rintro e w2 ⟨rfl, rfl⟩)
                  go_round
                  case rel => exact ⟨k + 1, by rw [HE2.out]; congr 1; omega, by go_num, by omega⟩
                  case measure => simp [intOf]; omega
                · have HE2 : Hid (wsum r x.fields V (k + 1) = wsum r x.fields V k) := by unfold Hid; rw [HST.out, HW.out, hk1, hk2, HDN.out, if_neg hn]; simp
                  go_wp2_with (go_at_call 178; refine (l1Number_any _ _ hvz).mono ?_; rintro e w2 ⟨rfl, rfl⟩)
                  go_round
                  case rel => exact ⟨k + 1, by rw [HE2.out], by go_num, by omega⟩
                  case measure => simp [intOf]; omega
          · have he : k = V.length := by have := HN.out; omega
            subst he
            go_wp2
            go_ret
            exact ⟨ret_int (by have := HE.out; omega), HB1.out⟩
      | false =>
        have HE : Hid (weighV Ss kind V r = 0 + wsum r x.fields V V.length) := by unfold Hid; rw [HQ.out, hk]; rfl
        go_wp2
        go_loop [9, 10] (fun n i => ∃ k : Nat, n = .int .i64 (0 + wsum r x.fields V k) ∧ i = .int .i64 k ∧ k ≤ x.fields.length) (fun _ i => x.fields.length - (intOf i).toNat)
        case atStart => exact ⟨0, by simp [wsum], rfl, by omega⟩
        case round =>
          obtain ⟨k, rfl, rfl, hkl⟩ := hrel
          by_cases hlt : k < x.fields.length
          · have hlv : k < V.length := by have := HN.out; omega
            obtain ⟨fb, foff, rfl, hfb, hfc⟩ := HF.out.full' (by omega)
            obtain ⟨hsz, wv, hcell, -⟩ := hfc k hlt
            obtain ⟨c0, c1, c2, c3, c4, c5, c6, c7, c8, c9, c10⟩ := hcell
            obtain ⟨vb, voff, rfl, hvb, hvc, hvs⟩ := HV1.out.spread (by omega)
            have hvk := hvc k hlv
            have hvz : V[k].size ≤ maxLen := hvs _ (List.getElem_mem hlv)
            have HST := hide (wsum_succ (r := r) hlt hlv)
            have HDN := hide (decR_num V[k])
            have hbd := HBD.out k
            have hbn := decR_bd V[k]
            have hW : wone r x.fields[k] V[k] = if (x.fields[k].kd == 1 && x.fields[k].we.toList == r.toList) = true then decR V[k] else 0 := rfl
            have HW := hide hW
            clear hfc hvc hvs c0 c2 c3 c4 c5 c6 c7 c8 c9 hsz hW
            cases hk1 : (x.fields[k].kd == 1) with
            | false =>
              have HE2 : Hid (wsum r x.fields V (k + 1) = wsum r x.fields V k) := by unfold Hid; rw [HST.out, HW.out, hk1]; simp
              go_wp2_with (go_at_call 178; refine (l1Number_any _ _ hvz).mono ?_; rintro e w2 ⟨rfl, rfl⟩)
              go_round
              case rel => exact ⟨k + 1, by rw [HE2.out]; congr 1; omega, by go_num, by omega⟩
              case measure => simp [intOf]; omega
            | true =>
              cases hk2 : (x.fields[k].we.toList == r.toList) with
              | false =>
                have HE2 : Hid (wsum r x.fields V (k + 1) = wsum r x.fields V k) := by unfold Hid; rw [HST.out, HW.out, hk1, hk2]; simp
                go_wp2_with (go_at_call 178; refine (l1Number_any _ _ hvz).mono ?_; rintro e w2 ⟨rfl, rfl⟩)
                go_round
                case rel => exact ⟨k + 1, by rw [HE2.out]; congr 1; omega, by go_num, by omega⟩
                case measure => simp [intOf]; omega
              | true =>
                by_cases hn : 0 < numV V[k]
                · have HE2 : Hid (wsum r x.fields V (k + 1) = wsum r x.fields V k + numV V[k]) := by unfold Hid; rw [HST.out, HW.out, hk1, hk2, HDN.out, if_pos hn]; simp
                  have hb2 := HBD.out (k + 1)
                  rw [HE2.out] at hb2
                  push_cast at hb2
                  go_wp2_with (go_at_call 178; refine (l1Number_any _ _ hvz).mono ?_; rintro e w2 ⟨rfl, rfl⟩)
                  go_round
                  case rel => exact ⟨k + 1, by rw [HE2.out]; congr 1; omega, by go_num, by omega⟩
                  case measure => simp [intOf]; omega
                · have HE2 : Hid (wsum r x.fields V (k + 1) = wsum r x.fields V k) := by unfold Hid; rw [HST.out, HW.out, hk1, hk2, HDN.out, if_neg hn]; simp
                  go_wp2_with (go_at_call 178; refine (l1Number_any _ _ hvz).mono ?_; rintro e w2 ⟨rfl, rfl⟩)
                  go_round
                  case rel => exact ⟨k + 1, by rw [HE2.out]; congr 1; omega, by go_num, by omega⟩
                  case measure => simp [intOf]; omega
          · have he : k = V.length := by have := HN.out; omega
            subst he
            go_wp2
            go_ret
            exact ⟨ret_int (by have := HE.out; omega), HB1.out⟩
  · have HQ := hide (weigh_no (r := r) hno)
    clear hb1 HO HB hno
    go_wp2
    go_ret
    exact ⟨ret_int HQ.out.symm, HB1.out⟩
end
end Go.Proofs.YthfdfdlojfdckaaGreat

namespace Go.Proofs.YthfdfdlojfdckaaGreat
open Go.RowKit Go.Deep Go.Shelf

attribute [local go_sem] Oper.semAt_some

theorem grown_of_below {w w' : World} (h : Below w.heap.size w w') : w.grownBy w' none :=
  ⟨h.os, h.tape, h.output, h.size, fun k hk _ => h.block k hk⟩
theorem abides_below {β : Type} {B : Nat} {J : β → World → Prop} (h : AbidesFrom B J) {s : β} {W W' : World} (hs : J s W) (hb : Below W.heap.size W W') : J s W' :=
  h s W W' none hs (grown_of_below hb) (fun r e => by cases e)

/-- WHAT A LOOP'S BODY KEEPS: all cells, and all that lay below B, but for the blocks of S. -/
structure KeepsBut (S : Nat → Prop) (B : Nat) (W W' : World) : Prop where
  os : W'.os = W.os
  tape : W'.tape = W.tape
  output : W'.output = W.output
  size : W.heap.size ≤ W'.heap.size
  same : ∀ k o, W.heap[k]? = some o → ¬ S k → (o.isCells = true ∨ k < B) → W'.heap[k]? = some o
theorem KeepsBut.refl (S : Nat → Prop) (B : Nat) (W : World) : KeepsBut S B W W := ⟨rfl, rfl, rfl, Nat.le_refl _, fun _ _ h _ _ => h⟩
theorem KeepsBut.trans {S : Nat → Prop} {B : Nat} {W W' W'' : World} (h : KeepsBut S B W W') (k : KeepsBut S B W' W'') : KeepsBut S B W W'' :=
  ⟨k.os.trans h.os, k.tape.trans h.tape, k.output.trans h.output, Nat.le_trans h.size k.size, fun i o hi hs ho => k.same i o (h.same i o hi hs ho) hs ho⟩
theorem KeepsBut.put {S : Nat → Prop} {w : World} (W : World) (l : Nat) (o o' : Obj) (hl : w.heap.size ≤ l) (h : W.heap[l]? = some o) (hc : o.isCells = false) (_ : o.isWalk = false) : KeepsBut S w.heap.size W (W.putObj l o') := by
  have hg := grownBy_putObj' W l o'
  refine ⟨hg.os, hg.tape, hg.output, hg.size, fun k x hk _ hx => ?_⟩
  by_cases e : k = l
  · subst e
    rw [h] at hk
    cases hk
    rcases hx with hx | hx
    · rw [hc] at hx; cases hx
    · omega
  · rw [hg.block k (Array.getElem?_eq_some_iff.1 hk).1 (fun e' => e (Option.some.inj e'))]
    exact hk
theorem KeepsBut.below {S : Nat → Prop} {B m : Nat} {W W' : World} (h : KeepsBut S B W W') (hm : m ≤ W.heap.size) (hS : ∀ k, k < m → ¬ S k) (hB : m ≤ B) : Below m W W' := by
  refine ⟨h.os, h.tape, h.output, h.size, fun k hk => ?_⟩
  have hlt : k < W.heap.size := Nat.lt_of_lt_of_le hk hm
  rw [Array.getElem?_eq_getElem hlt]
  exact h.same k _ (Array.getElem?_eq_getElem hlt) (hS k hk) (Or.inr (Nat.lt_of_lt_of_le hk hB))
theorem KeepsBut.cell {S : Nat → Prop} {B : Nat} {W W' : World} {p : Addr} {v : Value} (h : KeepsBut S B W W') (hc : W.cell? p = some v) (hS : ¬ S p.block) : W'.cell? p = some v := by
  obtain ⟨o, ho, hc'⟩ := cells_of_cell hc
  exact (World.cell?_of_block ((h.same _ o ho hS (Or.inl hc')).trans ho.symm)).trans hc
theorem KeepsBut.set {S : Nat → Prop} {B : Nat} (W : World) (p : Addr) (u : Value) (hS : S p.block) : KeepsBut S B W (W.setCell p u) := by
  refine ⟨rfl, rfl, rfl, by simp [World.setCell], fun k o hk hs _ => ?_⟩
  rw [Below.heap_setCell W p u k (fun e => hs (e ▸ hS))]
  exact hk

/-- what comes of the first k fields -/
def wpairs (Fs : List Fd) (V : List ByteArray) : Nat → List (ByteArray × Int)
  | 0 => []
  | k + 1 => wpairs Fs V k ++ (match Fs[k]?, V[k]? with | some f, some s => if (f.kd == 1 && !f.we.toList.isEmpty) = true then [(f.we, decR s)] else [] | _, _ => [])
theorem wpairs_succ {Fs : List Fd} {V : List ByteArray} {k : Nat} (hf : k < Fs.length) (hv : k < V.length) : wpairs Fs V (k + 1) = wpairs Fs V k ++ (if (Fs[k].kd == 1 && !Fs[k].we.toList.isEmpty) = true then [(Fs[k].we, decR V[k])] else []) := by
  rw [wpairs]
  simp [hf, hv]
theorem wpairs_len (Fs : List Fd) (V : List ByteArray) (k : Nat) : (wpairs Fs V k).length ≤ k := by
  induction k with
  | zero => simp [wpairs]
  | succ k ih =>
    rw [wpairs, List.length_append]
    split
    · split
      · simp; omega
      · simp; omega
    · simp; omega
def khead (kind : ByteArray) : List (ByteArray × Int) := if kind.toList.isEmpty = true then [] else [(kind, 1)]
/-- what comes of an object -/
def wlist (Ss : List Sh) (kind : ByteArray) (V : List ByteArray) : List (ByteArray × Int) :=
  match shOf Ss kind with
  | some x => if x.fields.length = V.length then khead kind ++ wpairs x.fields V V.length else []
  | none => []
theorem wlist_no {Ss : List Sh} {kind : ByteArray} {V : List ByteArray} (h : ∀ x, shOf Ss kind = some x → x.fields.length ≠ V.length) : wlist Ss kind V = [] := by
  unfold wlist
  cases hs : shOf Ss kind with
  | none => rfl
  | some x => simp [h x hs]
theorem wlist_yes {Ss : List Sh} {kind : ByteArray} {V : List ByteArray} {x : Sh} (h : shOf Ss kind = some x) (hl : x.fields.length = V.length) : wlist Ss kind V = khead kind ++ wpairs x.fields V V.length := by
  unfold wlist
  rw [h]
  simp [hl]
/-- what the parts of a list that are of a resource are together -/
def rsum (r : ByteArray) (L : List (ByteArray × Int)) : Int := (L.map fun p => if (p.1.toList == r.toList) = true then p.2 else 0).sum
theorem rsum_nil (r : ByteArray) : rsum r [] = 0 := rfl
theorem rsum_append (r : ByteArray) (A B : List (ByteArray × Int)) : rsum r (A ++ B) = rsum r A + rsum r B := by simp [rsum]
theorem rsum_one (r : ByteArray) (p : ByteArray × Int) : rsum r [p] = if (p.1.toList == r.toList) = true then p.2 else 0 := by simp [rsum]
theorem rsum_pairs {r : ByteArray} (hr : r.toList.isEmpty = false) (Fs : List Fd) (V : List ByteArray) (k : Nat) : rsum r (wpairs Fs V k) = wsum r Fs V k := by
  induction k with
  | zero => rfl
  | succ k ih =>
    rw [wpairs, wsum, rsum_append, ih]
    congr 1
    generalize Fs[k]? = fo
    generalize V[k]? = so
    cases fo with
    | none => rfl
    | some f =>
      cases so with
      | none => rfl
      | some s =>
        dsimp only
        unfold wone
        cases h1 : (f.kd == 1) with
        | false => simp [rsum_nil]
        | true =>
          cases h2 : f.we.toList.isEmpty with
          | false => simp [rsum_one]
          | true =>
            have : (f.we.toList == r.toList) = false := by
              rw [List.isEmpty_iff.1 h2]
              cases hq : r.toList with
              | nil => rw [hq] at hr; simp at hr
              | cons _ _ => rfl
            simp [rsum_nil, this]
theorem rsum_empty {r : ByteArray} (hr : r.toList.isEmpty = true) (Fs : List Fd) (V : List ByteArray) (k : Nat) : rsum r (wpairs Fs V k) = 0 := by
  induction k with
  | zero => rfl
  | succ k ih =>
    rw [wpairs, rsum_append, ih]
    split
    · rename_i f s _ _
      cases h2 : f.we.toList.isEmpty with
      | true => simp [rsum_nil]
      | false =>
        have : (f.we.toList == r.toList) = false := by
          rw [List.isEmpty_iff.1 hr]
          cases hq : f.we.toList with
          | nil => rw [hq] at h2; simp at h2
          | cons _ _ => rfl
        split
        · simp [rsum_one, this]
        · simp [rsum_nil]
    · simp [rsum_nil]
theorem rsum_wlist (Ss : List Sh) (kind : ByteArray) (V : List ByteArray) (r : ByteArray) : rsum r (wlist Ss kind V) = weighV Ss kind V r := by
  by_cases hn : ∀ x, shOf Ss kind = some x → x.fields.length ≠ V.length
  · rw [wlist_no hn, weigh_no hn]; rfl
  · obtain ⟨x, hx, hl⟩ : ∃ x, shOf Ss kind = some x ∧ x.fields.length = V.length := Classical.byContradiction fun h => hn fun x hx hl => h ⟨x, hx, hl⟩
    rw [wlist_yes hx hl, rsum_append]
    cases hr : r.toList.isEmpty with
    | true =>
      rw [weigh_nil hr, rsum_empty hr]
      unfold khead
      cases hk : kind.toList.isEmpty with
      | true => rfl
      | false =>
        have : (kind.toList == r.toList) = false := by
          rw [List.isEmpty_iff.1 hr]
          cases hq : kind.toList with
          | nil => rw [hq] at hk; simp at hk
          | cons _ _ => rfl
        simp [rsum_one, this]
    | false =>
      rw [weigh_yes hx hl hr, rsum_pairs hr]
      congr 1
      unfold khead
      cases hk : kind.toList.isEmpty with
      | true =>
        have : (r.toList == kind.toList) = false := by
          rw [List.isEmpty_iff.1 hk]
          cases hq : r.toList with
          | nil => rw [hq] at hr; simp at hr
          | cons _ _ => rfl
        simp [rsum_nil, this]
      | false =>
        simp only [Bool.false_eq_true, if_false, rsum_one]
        by_cases h : kind.toList = r.toList
        · simp [h]
        · have h' : ¬ r.toList = kind.toList := fun e => h e.symm
          simp [h, h']

section
variable (lo : Nat) (sv : Value) (Ss : List Sh) (kind nm team : ByteArray) (vv hv : Value) (en : Bool) (ver : Int) (V Ho : List ByteArray) (w : World)

set_option maxHeartbeats 1000000 in
theorem weights_in (F : Fence) (n : Nat) (hf : F.fn 191) (hro : F.round = none) (a : Option Addr) (ln cap : Nat) (va : Option Addr) (vn vcap : Nat) (ha : Option Addr) (hn hcap : Nat) :
    CallsIn F n Tryz.prog 191 #[.slice a ln cap, .agg #[.string kind, .string nm, .string team, .slice va vn vcap, .bool en, .slice ha hn hcap, .int .i64 ver]] w
      fun e w' => e = .returned (.func (.func 214) #[] #[.pointer (some ⟨w.heap.size, 0, none⟩), .pointer (some ⟨w.heap.size + 1, 0, none⟩)]) ∧
        w' = (w.alloc (.cells #[.slice a ln cap] 39)).alloc (.cells #[.string kind, .string nm, .string team, .slice va vn vcap, .bool en, .slice ha hn hcap, .int .i64 ver] 135) := by
  refine callsIn_of_wp Tryz.func191 rfl hf ?_ hro
  simp only [Tryz.ntmps191, List.size_toArray, List.length_cons, List.length_nil, Nat.reduceAdd, Nat.reduceSub, Array.replicate_succ, Array.replicate_zero, List.push_toArray, List.append_toArray, List.nil_append, List.cons_append]
  gi_wp2
  go_ret
  exact ⟨rfl, rfl⟩
end
end Go.Proofs.YthfdfdlojfdckaaGreat

