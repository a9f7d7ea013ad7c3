import Derived.Test.YtmaagbnjpdijnaaVOXm
import Derived.Test.YtmaagbnjpdijnaaVOXh
import Derived.Test.YtmaagbnjpdijnaaVBBL
import Derived.Test.YtmaagbnjpdijnaaVOWX
import Derived.Test.YtmaagbnjpdijnaaVBOG
import Derived.Test.YtmaagbnjpdijnaaVM2
import Derived.Test.YtmaagbnjpdijnaaVDA
import Derived.Test.YtmaagbnjpdijnaaVA1
namespace Go.Proofs.Ytmaagbnjpdijnaa
open Go.RowKit Go.Deep

/-- the parts of a book of one's own lie apart -/
structure ApartB (lo hi o0 o1 g0 g1 l0 l1 p0 p1 : Nat) : Prop where
  o : lo ≤ o0 ∧ o1 ≤ hi
  g : lo ≤ g0 ∧ g1 ≤ hi
  l : lo ≤ l0 ∧ l1 ≤ hi
  p : lo ≤ p0 ∧ p1 ≤ hi
  og : o1 ≤ g0 ∨ g1 ≤ o0
  ol : o1 ≤ l0 ∨ l1 ≤ o0
  op : o1 ≤ p0 ∨ p1 ≤ o0
  gl : g1 ≤ l0 ∨ l1 ≤ g0
  gp : g1 ≤ p0 ∨ p1 ≤ g0
  lp : l1 ≤ p0 ∨ p1 ≤ l0
/-- a book of one's own -/
def BookOwn (lo hi : Nat) (w : World) (ov gv lv pv : Value) (B : Bk) : Prop :=
  ∃ o0 o1 g0 g1 l0 l1 p0 p1 : Nat, ApartB lo hi o0 o1 g0 g1 l0 l1 p0 p1 ∧ ObsOwn o0 o1 w ov B.os ∧ GrsOwn g0 g1 w gv B.gs ∧ LesOwn l0 l1 w lv B.ls ∧ PusOwn p0 p1 w pv B.ps
theorem ObsOwn.low {lo hi lo' : Nat} {w : World} {v : Value} {Xl : List Ob} (h : ObsOwn lo hi w v Xl) (hl : lo' ≤ lo) : ObsAt lo' w v Xl := h.at.mono hl
theorem BookOwn.at {lo hi : Nat} {w : World} {ov gv lv pv : Value} {B : Bk} (h : BookOwn lo hi w ov gv lv pv B) : BookAt lo w ov gv lv pv B := by
  obtain ⟨_, _, _, _, _, _, _, _, ha, h1, h2, h3, h4⟩ := h
  exact ⟨h1.at.mono ha.o.1, h2.at.mono ha.g.1, h3.at.mono ha.l.1, h4.at.mono ha.p.1⟩
theorem BookOwn.below {lo hi : Nat} {w w' : World} {ov gv lv pv : Value} {B : Bk} (h : BookOwn lo hi w ov gv lv pv B) (hb : Below w.heap.size w w') : BookOwn lo hi w' ov gv lv pv B := by
  obtain ⟨o0, o1, g0, g1, l0, l1, p0, p1, ha, h1, h2, h3, h4⟩ := h
  exact ⟨o0, o1, g0, g1, l0, l1, p0, p1, ha, h1.below hb, h2.below hb, h3.below hb, h4.below hb⟩
theorem BookOwn.touch {lo hi lo' hi' : Nat} {w w' : World} {ov gv lv pv : Value} {B : Bk} (h : BookOwn lo hi w ov gv lv pv B) (ht : Touch lo' hi' w w') (ho : hi ≤ lo' ∨ hi' ≤ lo) : BookOwn lo hi w' ov gv lv pv B := by
  obtain ⟨o0, o1, g0, g1, l0, l1, p0, p1, ha, h1, h2, h3, h4⟩ := h
  have := ha.o
  have := ha.g
  have := ha.l
  have := ha.p
  exact ⟨o0, o1, g0, g1, l0, l1, p0, p1, ha, h1.touch ht (by omega), h2.touch ht (by omega), h3.touch ht (by omega), h4.touch ht (by omega)⟩
theorem BookOwn.wide {lo hi lo' hi' : Nat} {w : World} {ov gv lv pv : Value} {B : Bk} (h : BookOwn lo hi w ov gv lv pv B) (h1 : lo' ≤ lo) (h2 : hi ≤ hi') : BookOwn lo' hi' w ov gv lv pv B := by
  obtain ⟨o0, o1, g0, g1, l0, l1, p0, p1, ⟨q1, q2, q3, q4, r1, r2, r3, r4, r5, r6⟩, hh⟩ := h
  exact ⟨o0, o1, g0, g1, l0, l1, p0, p1, ⟨by omega, by omega, by omega, by omega, r1, r2, r3, r4, r5, r6⟩, hh⟩
def mkBk (k : Int) (B : Bk) : Bk := ⟨B.now, B.tick, B.given, mkObs k B.os, mkGrs (k + (posOb B.os B.os.length : Int)) B.gs, mkLes (k + (posOb B.os B.os.length : Int) + (posGr B.gs B.gs.length : Int)) B.ls, mkPus (k + (posOb B.os B.os.length : Int) + (posGr B.gs B.gs.length : Int) + (posLe B.ls B.ls.length : Int)) B.ps⟩
def endBk (k : Int) (B : Bk) : Int := k + (posOb B.os B.os.length : Int) + (posGr B.gs B.gs.length : Int) + (posLe B.ls B.ls.length : Int) + (posPu B.ps B.ps.length : Int)
theorem posBk_le {B : Bk} (hn : BookSmall B) : posOb B.os B.os.length ≤ 4000000000000 ∧ posGr B.gs B.gs.length ≤ 4000000000000 ∧ posLe B.ls B.ls.length ≤ 4000000000000 ∧ posPu B.ps B.ps.length ≤ 4000000000000 := by
  obtain ⟨h1, h2, h3, h4⟩ := hn
  have := posOb_le h1 (i := B.os.length) (Nat.le_refl _)
  have := posGr_le h2 (i := B.gs.length) (Nat.le_refl _)
  have := posLe_le h3 (i := B.ls.length) (Nat.le_refl _)
  have := posPu_le h4 (i := B.ps.length) (Nat.le_refl _)
  have := h1.1
  have := h2.1
  have := h3.1
  have := h4.1
  omega

section
variable (lo hi : Nat) (ov gv lv pv : Value) (B : Bk) (w : World)

set_option maxRecDepth 20000 in
set_option maxHeartbeats 4000000 in
theorem markBook_any (k : Int) (h : BookOwn lo hi w ov gv lv pv B) (hn : BookSmall B) (h0 : 0 ≤ k) (hk : k ≤ 1900000000000000000) (hhi : hi ≤ w.heap.size) :
    Calls Try.prog 54 #[.agg #[.int .i64 B.now, .int .i64 B.tick, .int .i64 B.given, ov, gv, lv, pv], .int .i64 k] w fun e w' => e = .returned (.int .i64 (endBk k B)) ∧ Touch lo hi w w' ∧ BookOwn lo hi w' ov gv lv pv (mkBk k B) := by
  obtain ⟨o0, o1, g0, g1, l0, l1, p0, p1, ha, h1, h2, h3, h4⟩ := h
  obtain ⟨z1, z2, z3, z4⟩ := posBk_le hn
  have HN := hide hn
  have HP := hide ha
  obtain ⟨⟨y1, y2⟩, ⟨y3, y4⟩, ⟨y5, y6⟩, ⟨y7, y8⟩, yog, yol, yop, ygl, ygp, ylp⟩ := ha
  have H1 := hide h1
  have H2 := hide h2
  have H3 := hide h3
  have H4 := hide h4
  obtain ⟨a0, k0, rfl⟩ := h1.form
  obtain ⟨a1, k1, rfl⟩ := h2.form
  obtain ⟨a2, k2, rfl⟩ := h3.form
  obtain ⟨a3, k3, rfl⟩ := h4.form
  clear h1 h2 h3 h4 hn
  go_enter Try.func54, Try.ntmps54
  go_wp2_with fail
  generalize hWa : w.alloc _ = Wa
  have hb : Below w.heap.size w Wa := by rw [← hWa]; exact one_al w _
  have HX0 : Hid (Box Wa w.heap.size #[.int .i64 B.now, .int .i64 B.tick, .int .i64 B.given, .slice a0 B.os.length k0, .slice a1 B.gs.length k1, .slice a2 B.ls.length k2, .slice a3 B.ps.length k3]) := by rw [← hWa]; exact Box.new _ _ _ _ rfl
  have HT0 : Hid (Touch lo hi w Wa) := Touch.below hb
  replace H1 := hide (H1.out.below hb)
  replace H2 := hide (H2.out.below hb)
  replace H3 := hide (H3.out.below hb)
  replace H4 := hide (H4.out.below hb)
  clear hWa hb
  refine (markObs_any o0 o1 _ B.os _ _ H1.out HN.out.1 (by omega) (by omega)).mono ?_
  rintro e w1 ⟨rfl, ht1, hq1⟩
  have HX1 := hide (HX0.out.touch ht1 (by omega))
  have HT1 : Hid (Touch lo hi w w1) := HT0.out.trans (ht1.wide (by omega) (by omega))
  replace H1 := hide hq1
  replace H2 := hide (H2.out.touch ht1 (by omega))
  replace H3 := hide (H3.out.touch ht1 (by omega))
  replace H4 := hide (H4.out.touch ht1 (by omega))
  clear ht1 hq1 HX0 HT0
  have c1 := HX1.out.cell 4
  simp at c1
  go_wp2_with fail
  clear c1
  refine (markGrs_any g0 g1 _ B.gs _ _ H2.out HN.out.2.1 (by omega) (by omega)).mono ?_
  rintro e w2 ⟨rfl, ht2, hq2⟩
  have HX2 := hide (HX1.out.touch ht2 (by omega))
  have HT2 : Hid (Touch lo hi w w2) := HT1.out.trans (ht2.wide (by omega) (by omega))
  replace H1 := hide (H1.out.touch ht2 (by omega))
  replace H2 := hide hq2
  replace H3 := hide (H3.out.touch ht2 (by omega))
  replace H4 := hide (H4.out.touch ht2 (by omega))
  clear ht2 hq2 HX1 HT1
  have c2 := HX2.out.cell 5
  simp at c2
  go_wp2_with fail
  clear c2
  refine (markLes_any l0 l1 _ B.ls _ _ H3.out HN.out.2.2.1 (by omega) (by omega)).mono ?_
  rintro e w3 ⟨rfl, ht3, hq3⟩
  have HX3 := hide (HX2.out.touch ht3 (by omega))
  have HT3 : Hid (Touch lo hi w w3) := HT2.out.trans (ht3.wide (by omega) (by omega))
  replace H1 := hide (H1.out.touch ht3 (by omega))
  replace H2 := hide (H2.out.touch ht3 (by omega))
  replace H3 := hide hq3
  replace H4 := hide (H4.out.touch ht3 (by omega))
  clear ht3 hq3 HX2 HT2
  have c3 := HX3.out.cell 6
  simp at c3
  go_wp2_with fail
  clear c3
  refine (markPus_any p0 p1 _ B.ps _ _ H4.out HN.out.2.2.2 (by omega) (by omega)).mono ?_
  rintro e w4 ⟨rfl, ht4, hq4⟩
  have HX4 := hide (HX3.out.touch ht4 (by omega))
  have HT4 : Hid (Touch lo hi w w4) := HT3.out.trans (ht4.wide (by omega) (by omega))
  replace H1 := hide (H1.out.touch ht4 (by omega))
  replace H2 := hide (H2.out.touch ht4 (by omega))
  replace H3 := hide (H3.out.touch ht4 (by omega))
  replace H4 := hide hq4
  clear ht4 hq4 HX3 HT3
  go_wp2
  go_ret
  exact ⟨rfl, HT4.out, o0, o1, g0, g1, l0, l1, p0, p1, HP.out, H1.out, H2.out, H3.out, H4.out⟩

set_option maxRecDepth 20000 in
set_option maxHeartbeats 4000000 in
theorem heldBook_any (k : Int) (h : BookOwn lo hi w ov gv lv pv (mkBk k B)) (hn : BookSmall B) (h0 : 0 ≤ k) (hk : k ≤ 1900000000000000000) :
    Calls Try.prog 56 #[.agg #[.int .i64 B.now, .int .i64 B.tick, .int .i64 B.given, ov, gv, lv, pv], .int .i64 k] w fun e w' => e = .returned (.int .i64 (endBk k B)) ∧ Below w.heap.size w w' := by
  obtain ⟨o0, o1, g0, g1, l0, l1, p0, p1, ha, h1, h2, h3, h4⟩ := h
  obtain ⟨z1, z2, z3, z4⟩ := posBk_le hn
  have HN := hide hn
  clear ha
  have H1 : Hid (ObsOwn o0 o1 w ov (mkObs k B.os)) := h1
  have H2 : Hid (GrsOwn g0 g1 w gv (mkGrs (k + (posOb B.os B.os.length : Int)) B.gs)) := h2
  have H3 : Hid (LesOwn l0 l1 w lv (mkLes (k + (posOb B.os B.os.length : Int) + (posGr B.gs B.gs.length : Int)) B.ls)) := h3
  have H4 : Hid (PusOwn p0 p1 w pv (mkPus (k + (posOb B.os B.os.length : Int) + (posGr B.gs B.gs.length : Int) + (posLe B.ls B.ls.length : Int)) B.ps)) := h4
  obtain ⟨a0, k0, rfl⟩ := H1.out.form
  obtain ⟨a1, k1, rfl⟩ := H2.out.form
  obtain ⟨a2, k2, rfl⟩ := H3.out.form
  obtain ⟨a3, k3, rfl⟩ := H4.out.form
  rw [mkObs_len] at H1
  rw [mkGrs_len] at H2
  rw [mkLes_len] at H3
  rw [mkPus_len] at H4
  rw [mkObs_len, mkGrs_len, mkLes_len, mkPus_len]
  clear h1 h2 h3 h4 hn
  go_enter Try.func56, Try.ntmps56
  go_wp2_with fail
  generalize hWa : w.alloc _ = Wa
  have HB0 : Hid (Below w.heap.size w Wa) := by rw [← hWa]; exact one_al w _
  have HX0 : Hid (Box Wa w.heap.size #[.int .i64 B.now, .int .i64 B.tick, .int .i64 B.given, .slice a0 B.os.length k0, .slice a1 B.gs.length k1, .slice a2 B.ls.length k2, .slice a3 B.ps.length k3]) := by rw [← hWa]; exact Box.new _ _ _ _ rfl
  clear hWa
  refine (heldObs_any o0 o1 _ B.os _ _ (H1.out.below HB0.out) HN.out.1 (by omega) (by omega)).mono ?_
  rintro e w1 ⟨rfl, hb1⟩
  have HX1 := hide (HX0.out.on hb1)
  have HB1 : Hid (Below w.heap.size w w1) := HB0.out.trans (hb1.mono HB0.out.size)
  have hg1 : decide (k + (posOb B.os B.os.length : Int) < 0) = false := by simp; omega
  clear hb1 HX0 HB0
  have c1 := HX1.out.cell 4
  simp at c1
  go_wp2_with fail
  clear c1
  refine (heldGrs_any g0 g1 _ B.gs _ _ (H2.out.below HB1.out) HN.out.2.1 (by omega) (by omega)).mono ?_
  rintro e w2 ⟨rfl, hb2⟩
  have HX2 := hide (HX1.out.on hb2)
  have HB2 : Hid (Below w.heap.size w w2) := HB1.out.trans (hb2.mono HB1.out.size)
  have hg2 : decide (k + (posOb B.os B.os.length : Int) + (posGr B.gs B.gs.length : Int) < 0) = false := by simp; omega
  clear hb2 HX1 HB1
  have c2 := HX2.out.cell 5
  simp at c2
  go_wp2_with fail
  clear c2
  refine (heldLes_any l0 l1 _ B.ls _ _ (H3.out.below HB2.out) HN.out.2.2.1 (by omega) (by omega)).mono ?_
  rintro e w3 ⟨rfl, hb3⟩
  have HX3 := hide (HX2.out.on hb3)
  have HB3 : Hid (Below w.heap.size w w3) := HB2.out.trans (hb3.mono HB2.out.size)
  have hg3 : decide (k + (posOb B.os B.os.length : Int) + (posGr B.gs B.gs.length : Int) + (posLe B.ls B.ls.length : Int) < 0) = false := by simp; omega
  clear hb3 HX2 HB2
  have c3 := HX3.out.cell 6
  simp at c3
  go_wp2_with fail
  clear c3
  refine (heldPus_any p0 p1 _ B.ps _ _ (H4.out.below HB3.out) HN.out.2.2.2 (by omega) (by omega)).mono ?_
  rintro e w4 ⟨rfl, hb4⟩
  have HX4 := hide (HX3.out.on hb4)
  have HB4 : Hid (Below w.heap.size w w4) := HB3.out.trans (hb4.mono HB3.out.size)
  have hg4 : decide (k + (posOb B.os B.os.length : Int) + (posGr B.gs B.gs.length : Int) + (posLe B.ls B.ls.length : Int) + (posPu B.ps B.ps.length : Int) < 0) = false := by simp; omega
  clear hb4 HX3 HB3
  go_wp2
  go_ret
  exact ⟨rfl, HB4.out⟩
end
end Go.Proofs.Ytmaagbnjpdijnaa

