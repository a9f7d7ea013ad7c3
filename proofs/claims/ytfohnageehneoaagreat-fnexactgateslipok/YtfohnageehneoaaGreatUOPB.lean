import Derived.Test.YtfohnageehneoaaGreatUOpX
import Derived.Test.YtfohnageehneoaaGreatUTD
import Derived.Test.YtfohnageehneoaaGreatUBBL
import Derived.ChangeSlices
import Derived.Test.YtfohnageehneoaaGreatULA
import Derived.Test.YtfohnageehneoaaGreatUTB
import Derived.Test.YtfohnageehneoaaGreatUN9
import Derived.Test.YtfohnageehneoaaGreatUP1
import Derived.Test.YtfohnageehneoaaGreatUB1
import Derived.Test.YtfohnageehneoaaGreatUTA
import Derived.Test.YtfohnageehneoaaGreatUDA
import Derived.Test.YtfohnageehneoaaGreatUA1
import Derived.Test.YtfohnageehneoaaGreatUN6
namespace Go.Proofs.YtfohnageehneoaaGreat
open Go.ChangeShapes Go.WideShapes Go.ChangeAt Go.RowKit Go.Deep

end Go.Proofs.YtfohnageehneoaaGreat

namespace Go.Proofs.YtfohnageehneoaaGreat
open Go.RowKit Go.Deep

def lawB (Ss : List Sh) (Ms : List Md) (Ts : List Tm) : Bool := mendsB Ss Ms && teamsB Ts

section
variable (lo : Nat) (sv mv tv : Value) (Ss : List Sh) (Ms : List Md) (Ts : List Tm) (w : World)

set_option maxRecDepth 20000 in
set_option maxHeartbeats 2000000 in
theorem specLawOk_any (h : LawAt lo w sv mv tv Ss Ms Ts) :
    Calls Tryz.prog 78 #[.agg #[sv, mv, tv]] w fun e w' => e = .returned (.bool (lawB Ss Ms Ts)) ∧ Below w.heap.size w w' := by
  have HL := hide h
  obtain ⟨a, cap, rfl⟩ := h.shs.form
  obtain ⟨a1, cap1, rfl⟩ := h.mds.form
  obtain ⟨a2, cap2, rfl⟩ := h.tms.form
  clear h
  go_enter Tryz.func78, Tryz.ntmps78
  go_wp2_with fail
  generalize hWa : w.alloc _ = Wa
  have HBa : Hid (Below w.heap.size w Wa) := by rw [← hWa]; exact one_al w _
  have FA : Hid (Box Wa w.heap.size #[.slice a Ss.length cap, .slice a1 Ms.length cap1, .slice a2 Ts.length cap2]) := by rw [← hWa]; exact Box.new _ _ _ _ rfl
  clear hWa
  refine (specMends_any lo lo _ _ Ss Ms _ (HL.out.below HBa.out).shs (HL.out.below HBa.out).mds).mono ?_
  rintro e w1 ⟨rfl, hb1⟩
  have HB1 : Hid (Below w.heap.size w w1) := bt HBa.out hb1
  replace FA := hide (FA.out.on hb1)
  have g2 := FA.out.cell 2
  simp at g2
  clear hb1 HBa
  cases hm : mendsB Ss Ms with
  | false =>
    have HE : Hid (lawB Ss Ms Ts = false) := by unfold Hid lawB; rw [hm]; rfl
    go_wp2
    go_ret
    exact ⟨ret_bool HE.out.symm, HB1.out⟩
  | true =>
    have HE : Hid (lawB Ss Ms Ts = teamsB Ts) := by unfold Hid lawB; rw [hm]; rfl
    go_wp2_with fail
    refine (specTeams_any lo _ Ts _ (HL.out.below HB1.out).tms).mono ?_
    rintro e w2 ⟨rfl, hb2⟩
    have HB2 : Hid (Below w.heap.size w w2) := bt HB1.out hb2
    clear hb2
    go_wp2
    go_ret
    exact ⟨ret_bool HE.out.symm, HB2.out⟩

set_option maxRecDepth 20000 in
set_option maxHeartbeats 2000000 in
theorem implLawOk_any (h : LawAt lo w sv mv tv Ss Ms Ts) :
    Calls Tryz.prog 82 #[.agg #[sv, mv, tv]] w fun e w' => e = .returned (.bool (lawB Ss Ms Ts)) ∧ Below w.heap.size w w' := by
  have HL := hide h
  obtain ⟨a, cap, rfl⟩ := h.shs.form
  obtain ⟨a1, cap1, rfl⟩ := h.mds.form
  obtain ⟨a2, cap2, rfl⟩ := h.tms.form
  clear h
  go_enter Tryz.func82, Tryz.ntmps82
  go_wp2_with fail
  generalize hWa : w.alloc _ = Wa
  have HBa : Hid (Below w.heap.size w Wa) := by rw [← hWa]; exact one_al w _
  have FA : Hid (Box Wa w.heap.size #[.slice a Ss.length cap, .slice a1 Ms.length cap1, .slice a2 Ts.length cap2]) := by rw [← hWa]; exact Box.new _ _ _ _ rfl
  clear hWa
  refine (implMends_any lo lo _ _ Ss Ms _ (HL.out.below HBa.out).shs (HL.out.below HBa.out).mds).mono ?_
  rintro e w1 ⟨rfl, hb1⟩
  have HB1 : Hid (Below w.heap.size w w1) := bt HBa.out hb1
  replace FA := hide (FA.out.on hb1)
  have g2 := FA.out.cell 2
  simp at g2
  clear hb1 HBa
  cases hm : mendsB Ss Ms with
  | false =>
    have HE : Hid (lawB Ss Ms Ts = false) := by unfold Hid lawB; rw [hm]; rfl
    go_wp2
    go_ret
    exact ⟨ret_bool HE.out.symm, HB1.out⟩
  | true =>
    have HE : Hid (lawB Ss Ms Ts = teamsB Ts) := by unfold Hid lawB; rw [hm]; rfl
    go_wp2_with fail
    refine (implTeams_any lo _ Ts _ (HL.out.below HB1.out).tms).mono ?_
    rintro e w2 ⟨rfl, hb2⟩
    have HB2 : Hid (Below w.heap.size w w2) := bt HB1.out hb2
    clear hb2
    go_wp2
    go_ret
    exact ⟨ret_bool HE.out.symm, HB2.out⟩
end
end Go.Proofs.YtfohnageehneoaaGreat

