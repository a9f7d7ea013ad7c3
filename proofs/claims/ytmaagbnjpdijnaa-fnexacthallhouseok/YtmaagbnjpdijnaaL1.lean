import Derived.Test.YtmaagbnjpdijnaaN2
import Derived.Test.YtmaagbnjpdijnaaT1
import Derived.Test.YtmaagbnjpdijnaaDA
namespace Go.Proofs.Ytmaagbnjpdijnaa
open Go.RowKit Go.Deep

theorem ShsAt.set' {lo : Nat} {w : World} {v : Value} {Ss : List Sh} (h : ShsAt lo w v Ss) {p : Addr} (hp : p.block < lo) (u : Value) : ShsAt lo (w.setCell p u) v Ss := by
  rcases h with h | ⟨b, off, cap, h1, h2, h3, h4, h5, h7⟩
  · exact Or.inl h
  · refine Or.inr ⟨b, off, cap, h1, h2, h3, by simpa [World.setCell] using h4, h5, fun i hi => ?_⟩
    obtain ⟨hs, fv, c0, c1, hF⟩ := h7 i hi
    exact ⟨hs, fv, by rw [cell_setCell_ne _ _ _ _ (by simp only []; omega)]; exact c0, by rw [cell_setCell_ne _ _ _ _ (by simp only []; omega)]; exact c1, hF.setCell hp u⟩

/-- a law in memory, all of it above lo -/
structure LawAt (lo : Nat) (w : World) (sv mv tv : Value) (Ss : List Sh) (Ms : List Md) (Ts : List Tm) : Prop where
  shs : ShsAt lo w sv Ss
  mds : MdsAt lo w mv Ms
  tms : TmsAt lo w tv Ts
theorem LawAt.below {lo : Nat} {w w' : World} {sv mv tv : Value} {Ss : List Sh} {Ms : List Md} {Ts : List Tm} (h : LawAt lo w sv mv tv Ss Ms Ts) (hb : Below w.heap.size w w') : LawAt lo w' sv mv tv Ss Ms Ts :=
  ⟨h.shs.below hb, h.mds.below hb, h.tms.below hb⟩
theorem LawAt.mono {lo lo' : Nat} {w : World} {sv mv tv : Value} {Ss : List Sh} {Ms : List Md} {Ts : List Tm} (h : LawAt lo w sv mv tv Ss Ms Ts) (hl : lo' ≤ lo) : LawAt lo' w sv mv tv Ss Ms Ts :=
  ⟨h.shs.mono hl, h.mds.mono hl, h.tms.mono hl⟩
def LawSmall (Ss : List Sh) (Ms : List Md) (Ts : List Tm) : Prop := ShsSmall Ss ∧ Ms.length ≤ 1048576 ∧ Ts.length ≤ 1048576

section
variable (lo : Nat) (sv mv tv : Value) (Ss : List Sh) (Ms : List Md) (Ts : List Tm) (w : World)

set_option maxHeartbeats 1000000 in
theorem eqLaw_same (lo' : Nat) (sv' mv' tv' : Value) (h : LawAt lo w sv mv tv Ss Ms Ts) (h' : LawAt lo' w sv' mv' tv' Ss Ms Ts) :
    Calls Try.prog 10 #[.agg #[sv, mv, tv], .agg #[sv', mv', tv']] w fun e w' => e = .returned (.bool true) ∧ Below w.heap.size w w' := by
  have HL := hide h
  have HR := hide h'
  obtain ⟨a, cap, rfl⟩ := h.shs.form
  obtain ⟨a1, cap1, rfl⟩ := h.mds.form
  obtain ⟨a2, cap2, rfl⟩ := h.tms.form
  obtain ⟨a', cap', rfl⟩ := h'.shs.form
  obtain ⟨a1', cap1', rfl⟩ := h'.mds.form
  obtain ⟨a2', cap2', rfl⟩ := h'.tms.form
  clear h h'
  go_enter Try.func10, Try.ntmps10
  go_wp2_with fail
  have hX := Box.new w #[.slice a Ss.length cap, .slice a1 Ms.length cap1, .slice a2 Ts.length cap2] 31 _ rfl
  have hB0 := one_al w (.cells #[.slice a Ss.length cap, .slice a1 Ms.length cap1, .slice a2 Ts.length cap2] 31)
  have hsz : (w.alloc (.cells #[.slice a Ss.length cap, .slice a1 Ms.length cap1, .slice a2 Ts.length cap2] 31)).heap.size = w.heap.size + 1 := by simp
  generalize w.alloc (.cells #[.slice a Ss.length cap, .slice a1 Ms.length cap1, .slice a2 Ts.length cap2] 31) = wx at hX hB0 hsz ⊢
  have hY := Box.new wx #[.slice a' Ss.length cap', .slice a1' Ms.length cap1', .slice a2' Ts.length cap2'] 31 _ hsz
  have hB1 := one_al wx (.cells #[.slice a' Ss.length cap', .slice a1' Ms.length cap1', .slice a2' Ts.length cap2'] 31)
  have hX1 := hX.on hB1
  have HB := hide (hB0.trans (hB1.mono hB0.size))
  generalize wx.alloc (.cells #[.slice a' Ss.length cap', .slice a1' Ms.length cap1', .slice a2' Ts.length cap2'] 31) = wy at hY hX1 HB ⊢
  clear hX hB0 hB1 hsz
  refine (eqShs_same lo lo' _ _ Ss _ (HL.out.below HB.out).shs (HR.out.below HB.out).shs).mono ?_
  rintro e w1 ⟨rfl, hb1⟩
  have HX := hide (hX1.on hb1)
  have HY := hide (hY.on hb1)
  have HB1 := hide (HB.out.trans (hb1.mono HB.out.size))
  clear hb1 hX1 hY HB
  have c1 := HX.out.cell 1
  have d1 := HY.out.cell 1
  simp at c1 d1
  go_wp2_with fail
  clear c1 d1
  refine (eqMds_same lo lo' _ _ Ms _ (HL.out.below HB1.out).mds (HR.out.below HB1.out).mds).mono ?_
  rintro e w2 ⟨rfl, hb2⟩
  have HX := hide (HX.out.on hb2)
  have HY := hide (HY.out.on hb2)
  have HB2 := hide (HB1.out.trans (hb2.mono HB1.out.size))
  clear hb2 HB1
  have c1 := HX.out.cell 2
  have d1 := HY.out.cell 2
  simp at c1 d1
  go_wp2_with fail
  clear c1 d1
  refine (eqTms_same lo lo' _ _ Ts _ (HL.out.below HB2.out).tms (HR.out.below HB2.out).tms).mono ?_
  rintro e w3 ⟨rfl, hb3⟩
  have HB3 := hide (HB2.out.trans (hb3.mono HB2.out.size))
  clear hb3 HB2
  go_wp2
  go_ret
  exact ⟨rfl, HB3.out⟩

end
end Go.Proofs.Ytmaagbnjpdijnaa

