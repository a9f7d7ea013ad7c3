import Derived.Test.YtckdcejbojhlcaaS15
namespace Go.Proofs.Ytckdcejbojhlcaa
open Go.RowKit Go.Deep

set_option maxHeartbeats 1000000 in
theorem law_shapes (lo : Nat) (v : Value) (Ss : List Sh) (w : World) (hv : ShsAt lo w v Ss) :
    Calls Try.prog 4 #[v] w fun e w' => e = .returned (.bool true) ∧ Below w.heap.size w w' := by
  have HV := hide hv
  obtain ⟨a, cap, rfl⟩ := hv.form
  clear hv
  go_enter Try.func4, Try.ntmps4
  go_wp2_with fail
  refine (szShs_any lo _ Ss _ _ (by omega) (by omega) HV.out).mono ?_
  rintro e w1 ⟨r, rfl, hb1, hr0, hr1, hr2⟩
  have HB1 := hide hb1
  have HQ := hide hr2
  clear hb1 hr2
  by_cases hneg : r < 0
  · go_wp2
    go_ret
    exact ⟨rfl, HB1.out⟩
  have hS : Hid (ShsSmall Ss) := HQ.out (by omega)
  clear hr0 hr1 HQ
  go_wp2_with fail
  refine (toShs_any lo _ Ss _ (HV.out.below HB1.out) hS.out).mono ?_
  rintro e w2 ⟨v2, rfl, hb2, hs2⟩
  have HB2 : Hid (Below w.heap.size w w2) := HB1.out.trans (hb2.mono HB1.out.size)
  have HS2 := hide hs2
  clear hb2 hs2
  go_wp2_with fail
  refine (specShapes_any _ _ Ss _ HS2.out).mono ?_
  rintro e w3 ⟨rfl, hb3⟩
  have HB3 : Hid (Below w.heap.size w w3) := HB2.out.trans (hb3.mono HB2.out.size)
  clear hb3 HS2
  go_wp2_with fail
  refine (toShs_any lo _ Ss _ (HV.out.below HB3.out) hS.out).mono ?_
  rintro e w4 ⟨v4, rfl, hb4, hs4⟩
  have HB4 : Hid (Below w.heap.size w w4) := HB3.out.trans (hb4.mono HB3.out.size)
  have HS4 := hide hs4
  clear hb4 hs4
  go_wp2_with fail
  refine (implShapes_any _ _ Ss _ HS4.out).mono ?_
  rintro e w5 ⟨rfl, hb5⟩
  have HB5 : Hid (Below w.heap.size w w5) := HB4.out.trans (hb5.mono HB4.out.size)
  have HS5 := hide (HS4.out.below hb5)
  clear hb5 HS4
  go_wp2_with fail
  refine (toShs_any lo _ Ss _ (HV.out.below HB5.out) hS.out).mono ?_
  rintro e w6 ⟨v6, rfl, hb6, hs6⟩
  have HB6 : Hid (Below w.heap.size w w6) := HB5.out.trans (hb6.mono HB5.out.size)
  have HS6 := hide hs6
  have HS5' := hide (HS5.out.below hb6)
  clear hb6 hs6
  go_wp2_with fail
  refine (eqShs_same _ _ _ _ Ss _ HS5'.out HS6.out).mono ?_
  rintro e w7 ⟨rfl, hb7⟩
  have HB7 : Hid (Below w.heap.size w w7) := HB6.out.trans (hb7.mono HB6.out.size)
  clear hb7
  go_wp2
  go_ret
  exact ⟨rfl, HB7.out⟩
end Go.Proofs.Ytckdcejbojhlcaa
