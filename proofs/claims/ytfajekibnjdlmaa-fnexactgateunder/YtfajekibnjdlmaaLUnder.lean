import Derived.Test.YtfajekibnjdlmaaT2
namespace Go.Proofs.Ytfajekibnjdlmaa
open Go.RowKit Go.Deep

set_option maxRecDepth 20000 in
set_option maxHeartbeats 2000000 in
theorem law_under (tv : Value) (Ts : List Tm) (a b : ByteArray) (w : World) (hT : TmsAt 0 w tv Ts) :
    Calls Try.prog 3 #[tv, .string a, .string b] w fun e w' => e = .returned (.bool true) ∧ Below w.heap.size w w' := by
  have HV := hide hT
  obtain ⟨ta, cap, rfl⟩ := hT.form
  clear hT
  by_cases hz1 : (1048576 : Int) < a.size
  · go_enter Try.func3, Try.ntmps3
    go_wp2
    go_ret
    exact ⟨rfl, Below.refl _ _⟩
  by_cases hz2 : (1048576 : Int) < b.size
  · go_enter Try.func3, Try.ntmps3
    go_wp2
    go_ret
    exact ⟨rfl, Below.refl _ _⟩
  go_enter Try.func3, Try.ntmps3
  go_wp2_with fail
  clear hz1 hz2
  refine (szTms_any 0 _ Ts _ _ (by omega) (by omega) HV.out).mono ?_
  rintro e w1 ⟨r, rfl, hb1, hr0, hr1, hr2⟩
  have HB1 := hide hb1
  have HQ := hide hr2
  clear hb1 hr2
  by_cases hneg : r < 0
  · go_wp2
    go_ret
    exact ⟨rfl, HB1.out⟩
  have hTm : Hid (Ts.length ≤ 1048576) := by have := HQ.out (by omega); unfold Hid; omega
  clear HQ hr0 hr1
  go_wp2_with fail
  clear hneg
  refine (toTms_any 0 _ Ts _ (HV.out.below HB1.out) hTm.out).mono ?_
  rintro e w3 ⟨v3, rfl, hb3, hs3⟩
  have HB3 : Hid (Below w.heap.size w w3) := HB1.out.trans (hb3.mono HB1.out.size)
  have HS3 := hide hs3
  clear hb3 hs3 HB1
  go_wp2_with fail
  refine (specUnder_any _ _ Ts a b _ HS3.out).mono ?_
  rintro e w5 ⟨rfl, hb5⟩
  have HB5 : Hid (Below w.heap.size w w5) := HB3.out.trans (hb5.mono HB3.out.size)
  clear hb5 HS3 HB3
  go_wp2_with fail
  refine (toTms_any 0 _ Ts _ (HV.out.below HB5.out) hTm.out).mono ?_
  rintro e w6 ⟨v6, rfl, hb6, hs6⟩
  have HB6 : Hid (Below w.heap.size w w6) := HB5.out.trans (hb6.mono HB5.out.size)
  have HS6 := hide hs6
  clear hb6 hs6 HB5
  go_wp2_with fail
  refine (implUnder_any _ _ Ts a b _ HS6.out).mono ?_
  rintro e w8 ⟨rfl, hb8⟩
  have HB8 : Hid (Below w.heap.size w w8) := HB6.out.trans (hb8.mono HB6.out.size)
  have HS8 := hide (HS6.out.below hb8)
  clear hb8 HS6 HB6
  generalize hQ : underB Ts a b = Q
  clear hQ
  go_wp2_with fail
  refine (toTms_any 0 _ Ts _ (HV.out.below HB8.out) hTm.out).mono ?_
  rintro e w9 ⟨v9, rfl, hb9, hs9⟩
  have HB9 : Hid (Below w.heap.size w w9) := HB8.out.trans (hb9.mono HB8.out.size)
  have HS9 := hide hs9
  have HS8 := hide (HS8.out.below hb9)
  clear hb9 hs9 HB8
  go_wp2_with fail
  refine (eqTms_same _ _ _ _ Ts _ HS8.out HS9.out).mono ?_
  rintro e w10 ⟨rfl, hb10⟩
  have HB10 : Hid (Below w.heap.size w w10) := HB9.out.trans (hb10.mono HB9.out.size)
  clear hb10 HS8 HS9 HB9
  go_wp2
  go_ret
  exact ⟨rfl, HB10.out⟩
end Go.Proofs.Ytfajekibnjdlmaa
