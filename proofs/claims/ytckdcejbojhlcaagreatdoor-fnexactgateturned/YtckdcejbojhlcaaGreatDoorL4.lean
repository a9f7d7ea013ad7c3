import Derived.Test.YtckdcejbojhlcaaGreatDoorE8
namespace Go.Proofs.YtckdcejbojhlcaaGreatDoor
open Go.RowKit Go.Deep

section
variable (k1 n1 t1 k2 n2 t2 : ByteArray) (vv hv uu gu sv : Value) (e1 e2 : Bool) (r1 r2 : Int) (V Ho U Hu : List ByteArray) (Ss : List Sh) (w : World) (lo : Nat)
set_option maxRecDepth 20000 in
set_option maxHeartbeats 4000000 in
theorem law_turned (hS : ShsAt lo w sv Ss) (hV : StrsAt w vv V) (hH : StrsAt w hv Ho) (hU : StrsAt w uu U) (hG : StrsAt w gu Hu) (z1 : k1.size ≤ maxLen) (s1 : n1.size ≤ maxLen) (s2 : t1.size ≤ maxLen) (z2 : k2.size ≤ maxLen) (s3 : n2.size ≤ maxLen) (s4 : t2.size ≤ maxLen) (hg : Laid w) :
    Calls Tryz.prog 4 #[sv, .agg #[.string k1, .string n1, .string t1, vv, .bool e1, hv, .int .i64 r1], .agg #[.string k2, .string n2, .string t2, uu, .bool e2, gu, .int .i64 r2]] w fun e w' => e = .returned (.bool true) ∧ Below w.heap.size w w' := by
  have HV := hide hV
  have HH := hide hH
  have HU := hide hU
  have HG := hide hG
  have HS := hide hS
  have HL := hide hg
  obtain ⟨a, cap, rfl⟩ := hV.formz
  obtain ⟨a', cap', rfl⟩ := hH.formz
  obtain ⟨b, dap, rfl⟩ := hU.formz
  obtain ⟨b', dap', rfl⟩ := hG.formz
  obtain ⟨a1, cap1, rfl⟩ := hS.form
  clear hV hH hU hG hS hg
  go_enter Tryz.func4, Tryz.ntmps4
  go_wp2_with fail
  generalize hW0 : (w.alloc _).alloc _ = W0
  have FB : Hid (Below w.heap.size w W0) := by rw [← hW0]; exact ((Below.refl _ _).alloc (Nat.le_refl _) _).alloc (by simp) _
  have FA : Hid (Box W0 w.heap.size #[Value.string k1, .string n1, .string t1, .slice a V.length cap, .bool e1, .slice a' Ho.length cap', .int .i64 r1]) := by rw [← hW0]; exact (Box.new w _ _ _ rfl).on (one_al _ _)
  have FC : Hid (Box W0 (w.heap.size + 1) #[Value.string k2, .string n2, .string t2, .slice b U.length dap, .bool e2, .slice b' Hu.length dap', .int .i64 r2]) := by rw [← hW0]; exact Box.new _ _ _ _ (by simp)
  clear hW0
  refine (szShs_any lo _ Ss _ _ (by omega) (by omega) (HS.out.below FB.out)).mono ?_
  rintro e w1 ⟨r, rfl, hb1, hr0, hr1, hr2⟩
  have FB : Hid (Below w.heap.size w w1) := bt FB.out hb1
  have FA : Hid (Box w1 w.heap.size #[Value.string k1, .string n1, .string t1, .slice a V.length cap, .bool e1, .slice a' Ho.length cap', .int .i64 r1]) := FA.out.on hb1
  have FC : Hid (Box w1 (w.heap.size + 1) #[Value.string k2, .string n2, .string t2, .slice b U.length dap, .bool e2, .slice b' Hu.length dap', .int .i64 r2]) := FC.out.on hb1
  have HQ := hide hr2
  clear hb1 hr2
  by_cases hneg : r < 0
  · go_wp2
    go_ret
    exact ⟨rfl, FB.out⟩
  have hSm : Hid (ShsSmall Ss) := HQ.out (by omega)
  clear HQ
  have g1 := FA.out.cell
  go_wp2_with fail
  refine (szObj_any _ _ _ _ _ _ _ V Ho _ r (HV.out.below FB.out) (HH.out.below FB.out) (by omega) (by omega) z1 s1 s2).mono ?_
  rintro e w2 ⟨q, rfl, hb2, hq0, hq1, hq2⟩
  have FB : Hid (Below w.heap.size w w2) := bt FB.out hb2
  have FA : Hid (Box w2 w.heap.size #[Value.string k1, .string n1, .string t1, .slice a V.length cap, .bool e1, .slice a' Ho.length cap', .int .i64 r1]) := FA.out.on hb2
  have FC : Hid (Box w2 (w.heap.size + 1) #[Value.string k2, .string n2, .string t2, .slice b U.length dap, .bool e2, .slice b' Hu.length dap', .int .i64 r2]) := FC.out.on hb2
  have HQ := hide hq2
  clear hb2 hq2 g1
  by_cases hneg2 : q < 0
  · go_wp2
    go_ret
    exact ⟨rfl, FB.out⟩
  have HM : Hid (V.length ≤ 1048576 ∧ Ho.length ≤ 1048576) := by have := HQ.out (by omega); unfold Hid; omega
  clear HQ
  have g1 := FC.out.cell
  go_wp2_with fail
  refine (szObj_any _ _ _ _ _ _ _ U Hu _ q (HU.out.below FB.out) (HG.out.below FB.out) (by omega) (by omega) z2 s3 s4).mono ?_
  rintro e w2 ⟨q2, rfl, hb2, hp0, hp1, hp2⟩
  have FB : Hid (Below w.heap.size w w2) := bt FB.out hb2
  have FA : Hid (Box w2 w.heap.size #[Value.string k1, .string n1, .string t1, .slice a V.length cap, .bool e1, .slice a' Ho.length cap', .int .i64 r1]) := FA.out.on hb2
  have FC : Hid (Box w2 (w.heap.size + 1) #[Value.string k2, .string n2, .string t2, .slice b U.length dap, .bool e2, .slice b' Hu.length dap', .int .i64 r2]) := FC.out.on hb2
  have HQ := hide hp2
  clear hb2 hp2 g1
  by_cases hneg3 : q2 < 0
  · go_wp2
    go_ret
    exact ⟨rfl, FB.out⟩
  have HM2 : Hid (U.length ≤ 1048576 ∧ Hu.length ≤ 1048576) := by have := HQ.out (by omega); unfold Hid; omega
  clear HQ hr0 hr1 hq0 hq1 hp0 hp1
  go_wp2_with fail
  go_region_held3 (fun W => (∀ i, W.cell? ⟨w.heap.size, i, none⟩ = (#[Value.string k1, .string n1, .string t1, .slice a V.length cap, .bool e1, .slice a' Ho.length cap', .int .i64 r1] : Array Value)[i]?) ∧ (∀ i, W.cell? ⟨w.heap.size + 1, i, none⟩ = (#[Value.string k2, .string n2, .string t2, .slice b U.length dap, .bool e2, .slice b' Hu.length dap', .int .i64 r2] : Array Value)[i]?) ∧ Hid (Below w2.heap.size w2 W ∧ w.heap.size < w2.heap.size ∧ w.heap.size + 1 < w2.heap.size))
    (first
      | (with_reducible exact Held2.drew FA.out FC.out)
      | (with_reducible exact Held2.on (by assumption) (by assumption)))
    (first
      | (go_at_call 8
         refine (toShs_any lo _ Ss _ (HS.out.below FB.out.drew) hSm.out).mono ?_
         rintro e w3 ⟨v3, rfl, hb3, hs3⟩
         obtain ⟨a3, cap3, rfl⟩ := hs3.form
         have HS3 := hide hs3
         have HD3 : Hid (Below w2.heap.size w2 w3) := by with_reducible exact hide (drew_on hb3)
         have HE3 : Hid (Below w.heap.size w w3) := bt FB.out HD3.out
         clear hs3)
      | (go_at_call 9
         have hq := HE4.out
         clear hq
         refine (toObj_any k2 n2 t2 _ _ _ _ U Hu _ (HU.out.below HE4.out) (HG.out.below HE4.out) HM2.out.1 HM2.out.2).mono ?_
         rintro e w5 ⟨v5, h5, rfl, hb5, hv5, hh5⟩
         obtain ⟨a5, cap5, rfl⟩ := hv5.at.formz
         obtain ⟨a5', cap5', rfl⟩ := hh5.at.formz
         have HV5 := hide hv5.at
         have HH5 := hide hh5.at
         have HD5 : Hid (Below w2.heap.size w2 w5) := bt HD4.out hb5
         clear hv5 hh5)
      | (go_at_call 9
         refine (toObj_any k1 n1 t1 _ _ _ _ V Ho _ (HV.out.below HE3.out) (HH.out.below HE3.out) HM.out.1 HM.out.2).mono ?_
         rintro e w4 ⟨v4, h4, rfl, hb4, hv4, hh4⟩
         obtain ⟨a4, cap4, rfl⟩ := hv4.at.formz
         obtain ⟨a4', cap4', rfl⟩ := hh4.at.formz
         have HV4 := hide hv4.at
         have HH4 := hide hh4.at
         have HD4 : Hid (Below w2.heap.size w2 w4) := bt HD3.out hb4
         have HE4 : Hid (Below w.heap.size w w4) := bt FB.out HD4.out
         clear hv4 hh4)
      | (go_at_call 13
         refine (specTurned_any _ _ _ _ _ _ _ _ _ _ _ _ _ _ _ V Ho U Hu Ss _ _ (HS3.out.below (bt hb4 hb5)) (HV4.out.below hb5) (HH4.out.below hb5) HV5.out HH5.out s1 s2 s3 s4).mono ?_
         rintro e w6 ⟨rfl, hb6⟩
         have HD6 : Hid (Below w2.heap.size w2 w6) := bt HD5.out hb6))
  have hbd := HD6.out
  have FB : Hid (Below w.heap.size w w6) := bt FB.out hbd
  have FA : Hid (Box w6 w.heap.size #[Value.string k1, .string n1, .string t1, .slice a V.length cap, .bool e1, .slice a' Ho.length cap', .int .i64 r1]) := FA.out.on hbd
  have FC : Hid (Box w6 (w.heap.size + 1) #[Value.string k2, .string n2, .string t2, .slice b U.length dap, .bool e2, .slice b' Hu.length dap', .int .i64 r2]) := FC.out.on hbd
  clear hbd hb3 hb4 hb5 hb6 HD3 HD4 HD5 HD6 HS3 HV4 HH4 HV5 HH5 HE3 HE4
  generalize hG1 : (turnG Ss k1 n1 t1 k2 n2 t2 V Ho U Hu r1 r2).1 = p1
  generalize hG2 : (turnG Ss k1 n1 t1 k2 n2 t2 V Ho U Hu r1 r2).2 = p2
  have HG1 := hide hG1
  have HG2 := hide hG2
  clear hG1 hG2
  go_wp2_with fail
  refine (toShs_any lo _ Ss _ (HS.out.below FB.out) hSm.out).mono ?_
  rintro e w7 ⟨v7, rfl, hb7, hs7⟩
  obtain ⟨a6, cap6, rfl⟩ := hs7.form
  have FB : Hid (Below w.heap.size w w7) := bt FB.out hb7
  have FA : Hid (Box w7 w.heap.size #[Value.string k1, .string n1, .string t1, .slice a V.length cap, .bool e1, .slice a' Ho.length cap', .int .i64 r1]) := FA.out.on hb7
  have FC : Hid (Box w7 (w.heap.size + 1) #[Value.string k2, .string n2, .string t2, .slice b U.length dap, .bool e2, .slice b' Hu.length dap', .int .i64 r2]) := FC.out.on hb7
  have FS := hide hs7
  clear hb7 hs7
  have g1 := FA.out.cell
  go_wp2_with fail
  refine (toObj_any _ _ _ _ _ _ _ V Ho _ (HV.out.below FB.out) (HH.out.below FB.out) HM.out.1 HM.out.2).mono ?_
  rintro e w8 ⟨v7, h7, rfl, hb8, hv7, hh7⟩
  obtain ⟨a7, cap7, rfl⟩ := hv7.at.formz
  obtain ⟨a7', cap7', rfl⟩ := hh7.at.formz
  have FB : Hid (Below w.heap.size w w8) := bt FB.out hb8
  have FA : Hid (Box w8 w.heap.size #[Value.string k1, .string n1, .string t1, .slice a V.length cap, .bool e1, .slice a' Ho.length cap', .int .i64 r1]) := FA.out.on hb8
  have FC : Hid (Box w8 (w.heap.size + 1) #[Value.string k2, .string n2, .string t2, .slice b U.length dap, .bool e2, .slice b' Hu.length dap', .int .i64 r2]) := FC.out.on hb8
  have FS := hide (FS.out.below hb8)
  have FV := hide hv7.at
  have FH := hide hh7.at
  clear hb8 hv7 hh7 g1
  have hlC := FC.out.lt
  have g1 := FC.out.cell
  go_wp2_with fail
  generalize hW8 : w8.alloc _ = W8
  have hbW8 : Below w8.heap.size w8 W8 := by rw [← hW8]; exact one_al _ _
  have FX : Hid (Box W8 w8.heap.size #[Value.string k1, .string n1, .string t1, .slice a7 V.length cap7, .bool e1, .slice a7' Ho.length cap7', .int .i64 r1]) := by rw [← hW8]; exact Box.new _ _ _ _ rfl
  have FB : Hid (Below w.heap.size w W8) := bt FB.out hbW8
  have FA : Hid (Box W8 w.heap.size #[Value.string k1, .string n1, .string t1, .slice a V.length cap, .bool e1, .slice a' Ho.length cap', .int .i64 r1]) := FA.out.on hbW8
  have FC : Hid (Box W8 (w.heap.size + 1) #[Value.string k2, .string n2, .string t2, .slice b U.length dap, .bool e2, .slice b' Hu.length dap', .int .i64 r2]) := FC.out.on hbW8
  have FS := hide (FS.out.below hbW8)
  have FV := hide (FV.out.below hbW8)
  have FH := hide (FH.out.below hbW8)
  clear hbW8 hW8 g1 hlC
  refine (toObj_any _ _ _ _ _ _ _ U Hu _ (HU.out.below FB.out) (HG.out.below FB.out) HM2.out.1 HM2.out.2).mono ?_
  rintro e w9 ⟨v9, h9, rfl, hb9, hv9, hh9⟩
  obtain ⟨b7, dap7, rfl⟩ := hv9.at.formz
  obtain ⟨b7', dap7', rfl⟩ := hh9.at.formz
  have FB : Hid (Below w.heap.size w w9) := bt FB.out hb9
  have FA : Hid (Box w9 w.heap.size #[Value.string k1, .string n1, .string t1, .slice a V.length cap, .bool e1, .slice a' Ho.length cap', .int .i64 r1]) := FA.out.on hb9
  have FC : Hid (Box w9 (w.heap.size + 1) #[Value.string k2, .string n2, .string t2, .slice b U.length dap, .bool e2, .slice b' Hu.length dap', .int .i64 r2]) := FC.out.on hb9
  have FS := hide (FS.out.below hb9)
  have FV := hide (FV.out.below hb9)
  have FH := hide (FH.out.below hb9)
  have FX : Hid (Box w9 w8.heap.size #[Value.string k1, .string n1, .string t1, .slice a7 V.length cap7, .bool e1, .slice a7' Ho.length cap7', .int .i64 r1]) := FX.out.on hb9
  have FU := hide hv9.at
  have FG := hide hh9.at
  clear hb9 hv9 hh9
  have hlX := FX.out.lt
  have g1 := FX.out.cell
  go_wp2_with fail
  generalize hW9 : w9.alloc _ = W9
  have hbW9 : Below w9.heap.size w9 W9 := by rw [← hW9]; exact one_al _ _
  have FY : Hid (Box W9 w9.heap.size #[Value.string k2, .string n2, .string t2, .slice b7 U.length dap7, .bool e2, .slice b7' Hu.length dap7', .int .i64 r2]) := by rw [← hW9]; exact Box.new _ _ _ _ rfl
  have FB : Hid (Below w.heap.size w W9) := bt FB.out hbW9
  have FA : Hid (Box W9 w.heap.size #[Value.string k1, .string n1, .string t1, .slice a V.length cap, .bool e1, .slice a' Ho.length cap', .int .i64 r1]) := FA.out.on hbW9
  have FC : Hid (Box W9 (w.heap.size + 1) #[Value.string k2, .string n2, .string t2, .slice b U.length dap, .bool e2, .slice b' Hu.length dap', .int .i64 r2]) := FC.out.on hbW9
  have FS := hide (FS.out.below hbW9)
  have FV := hide (FV.out.below hbW9)
  have FH := hide (FH.out.below hbW9)
  have FX : Hid (Box W9 w8.heap.size #[Value.string k1, .string n1, .string t1, .slice a7 V.length cap7, .bool e1, .slice a7' Ho.length cap7', .int .i64 r1]) := FX.out.on hbW9
  have FU := hide (FU.out.below hbW9)
  have FG := hide (FG.out.below hbW9)
  clear hbW9 hW9 g1 hlX
  refine (implTurned_any _ _ _ _ _ _ _ _ _ _ _ _ _ _ _ V Ho U Hu Ss _ _ FS.out FV.out FH.out FU.out FG.out s1 s2 s3 s4 (HL.out.on FB.out)).mono ?_
  rintro e w10 ⟨rfl, hb10⟩
  have FB : Hid (Below w.heap.size w w10) := bt FB.out hb10
  have FA : Hid (Box w10 w.heap.size #[Value.string k1, .string n1, .string t1, .slice a V.length cap, .bool e1, .slice a' Ho.length cap', .int .i64 r1]) := FA.out.on hb10
  have FC : Hid (Box w10 (w.heap.size + 1) #[Value.string k2, .string n2, .string t2, .slice b U.length dap, .bool e2, .slice b' Hu.length dap', .int .i64 r2]) := FC.out.on hb10
  have FS := hide (FS.out.below hb10)
  have FV := hide (FV.out.below hb10)
  have FH := hide (FH.out.below hb10)
  have FX : Hid (Box w10 w8.heap.size #[Value.string k1, .string n1, .string t1, .slice a7 V.length cap7, .bool e1, .slice a7' Ho.length cap7', .int .i64 r1]) := FX.out.on hb10
  have FU := hide (FU.out.below hb10)
  have FG := hide (FG.out.below hb10)
  have FY : Hid (Box w10 w9.heap.size #[Value.string k2, .string n2, .string t2, .slice b7 U.length dap7, .bool e2, .slice b7' Hu.length dap7', .int .i64 r2]) := FY.out.on hb10
  clear hb10
  rw [HG1.out, HG2.out]
  clear HG1 HG2
  go_wp2_with fail
  refine (toShs_any lo _ Ss _ (HS.out.below FB.out) hSm.out).mono ?_
  rintro e w11 ⟨v11, rfl, hb11, hs11⟩
  obtain ⟨a11, cap11, rfl⟩ := hs11.form
  have FB : Hid (Below w.heap.size w w11) := bt FB.out hb11
  have FA : Hid (Box w11 w.heap.size #[Value.string k1, .string n1, .string t1, .slice a V.length cap, .bool e1, .slice a' Ho.length cap', .int .i64 r1]) := FA.out.on hb11
  have FC : Hid (Box w11 (w.heap.size + 1) #[Value.string k2, .string n2, .string t2, .slice b U.length dap, .bool e2, .slice b' Hu.length dap', .int .i64 r2]) := FC.out.on hb11
  have FS := hide (FS.out.below hb11)
  have FV := hide (FV.out.below hb11)
  have FH := hide (FH.out.below hb11)
  have FX : Hid (Box w11 w8.heap.size #[Value.string k1, .string n1, .string t1, .slice a7 V.length cap7, .bool e1, .slice a7' Ho.length cap7', .int .i64 r1]) := FX.out.on hb11
  have FU := hide (FU.out.below hb11)
  have FG := hide (FG.out.below hb11)
  have FY : Hid (Box w11 w9.heap.size #[Value.string k2, .string n2, .string t2, .slice b7 U.length dap7, .bool e2, .slice b7' Hu.length dap7', .int .i64 r2]) := FY.out.on hb11
  have FS9 := hide hs11
  clear hb11 hs11
  go_wp2_with fail
  refine (eqShs_same _ _ _ _ Ss _ FS.out FS9.out).mono ?_
  rintro e w12 ⟨rfl, hb12⟩
  have FB : Hid (Below w.heap.size w w12) := bt FB.out hb12
  have FA : Hid (Box w12 w.heap.size #[Value.string k1, .string n1, .string t1, .slice a V.length cap, .bool e1, .slice a' Ho.length cap', .int .i64 r1]) := FA.out.on hb12
  have FC : Hid (Box w12 (w.heap.size + 1) #[Value.string k2, .string n2, .string t2, .slice b U.length dap, .bool e2, .slice b' Hu.length dap', .int .i64 r2]) := FC.out.on hb12
  have FV := hide (FV.out.below hb12)
  have FH := hide (FH.out.below hb12)
  have FX : Hid (Box w12 w8.heap.size #[Value.string k1, .string n1, .string t1, .slice a7 V.length cap7, .bool e1, .slice a7' Ho.length cap7', .int .i64 r1]) := FX.out.on hb12
  have FU := hide (FU.out.below hb12)
  have FG := hide (FG.out.below hb12)
  have FY : Hid (Box w12 w9.heap.size #[Value.string k2, .string n2, .string t2, .slice b7 U.length dap7, .bool e2, .slice b7' Hu.length dap7', .int .i64 r2]) := FY.out.on hb12
  clear hb12 FS FS9
  go_wp2_with fail
  go_region_held3 (fun W => (∀ i, W.cell? ⟨w8.heap.size, i, none⟩ = (#[Value.string k1, .string n1, .string t1, .slice a7 V.length cap7, .bool e1, .slice a7' Ho.length cap7', .int .i64 r1] : Array Value)[i]?) ∧ (∀ i, W.cell? ⟨w.heap.size, i, none⟩ = (#[Value.string k1, .string n1, .string t1, .slice a V.length cap, .bool e1, .slice a' Ho.length cap', .int .i64 r1] : Array Value)[i]?) ∧ Hid (Below w12.heap.size w12 W ∧ w8.heap.size < w12.heap.size ∧ w.heap.size < w12.heap.size))
    (first
      | (with_reducible exact Held2.drew FX.out FA.out)
      | (with_reducible exact Held2.on (by assumption) (by assumption)))
    (first
      | (go_at_call 9
         have HD := hide (FB.out.drew)
         refine (toObj_any _ _ _ _ _ _ _ V Ho _ (HV.out.below HD.out) (HH.out.below HD.out) HM.out.1 HM.out.2).mono ?_
         rintro e w13 ⟨v12, h12, rfl, hbm, ho7, ho8⟩
         obtain ⟨a12, cap12, rfl⟩ := ho7.at.formz
         obtain ⟨a13, cap13, rfl⟩ := ho8.at.formz
         have HV12 := hide ho7.at
         have HH12 := hide ho8.at
         clear ho7 ho8)
      | (go_at_call 12
         have HD : Hid (Below w12.heap.size w12 w13) := by with_reducible exact hide (drew_on hbm)
         refine (eqObj_same _ _ _ _ _ _ _ _ _ _ _ _ (FV.out.below HD.out) (FH.out.below HD.out) HV12.out HH12.out).mono ?_
         rintro e w14 ⟨rfl, hbn⟩
         have HDn : Hid (Below w12.heap.size w12 w14) := bt HD.out hbn
         clear HD))
  have hbq := HDn.out
  have FB : Hid (Below w.heap.size w w14) := bt FB.out hbq
  have FA : Hid (Box w14 w.heap.size #[Value.string k1, .string n1, .string t1, .slice a V.length cap, .bool e1, .slice a' Ho.length cap', .int .i64 r1]) := FA.out.on hbq
  have FC : Hid (Box w14 (w.heap.size + 1) #[Value.string k2, .string n2, .string t2, .slice b U.length dap, .bool e2, .slice b' Hu.length dap', .int .i64 r2]) := FC.out.on hbq
  have FV := hide (FV.out.below hbq)
  have FH := hide (FH.out.below hbq)
  have FX : Hid (Box w14 w8.heap.size #[Value.string k1, .string n1, .string t1, .slice a7 V.length cap7, .bool e1, .slice a7' Ho.length cap7', .int .i64 r1]) := FX.out.on hbq
  have FU := hide (FU.out.below hbq)
  have FG := hide (FG.out.below hbq)
  have FY : Hid (Box w14 w9.heap.size #[Value.string k2, .string n2, .string t2, .slice b7 U.length dap7, .bool e2, .slice b7' Hu.length dap7', .int .i64 r2]) := FY.out.on hbq
  clear hbq hbm hbn HDn HV12 HH12
  try clear HD
  go_wp2_with fail
  go_region_held3 (fun W => (∀ i, W.cell? ⟨w9.heap.size, i, none⟩ = (#[Value.string k2, .string n2, .string t2, .slice b7 U.length dap7, .bool e2, .slice b7' Hu.length dap7', .int .i64 r2] : Array Value)[i]?) ∧ (∀ i, W.cell? ⟨w.heap.size + 1, i, none⟩ = (#[Value.string k2, .string n2, .string t2, .slice b U.length dap, .bool e2, .slice b' Hu.length dap', .int .i64 r2] : Array Value)[i]?) ∧ Hid (Below w14.heap.size w14 W ∧ w9.heap.size < w14.heap.size ∧ w.heap.size + 1 < w14.heap.size))
    (first
      | (with_reducible exact Held2.drew FY.out FC.out)
      | (with_reducible exact Held2.on (by assumption) (by assumption)))
    (first
      | (go_at_call 9
         have HD := hide (FB.out.drew)
         refine (toObj_any _ _ _ _ _ _ _ U Hu _ (HU.out.below HD.out) (HG.out.below HD.out) HM2.out.1 HM2.out.2).mono ?_
         rintro e w15 ⟨v12, h12, rfl, hbm, ho7, ho8⟩
         obtain ⟨a12, cap12, rfl⟩ := ho7.at.formz
         obtain ⟨a13, cap13, rfl⟩ := ho8.at.formz
         have HV12 := hide ho7.at
         have HH12 := hide ho8.at
         clear ho7 ho8)
      | (go_at_call 12
         have HD : Hid (Below w14.heap.size w14 w15) := by with_reducible exact hide (drew_on hbm)
         refine (eqObj_same _ _ _ _ _ _ _ _ _ _ _ _ (FU.out.below HD.out) (FG.out.below HD.out) HV12.out HH12.out).mono ?_
         rintro e w16 ⟨rfl, hbn⟩
         have HDn : Hid (Below w14.heap.size w14 w16) := bt HD.out hbn
         clear HD))
  have hbq := HDn.out
  have FB : Hid (Below w.heap.size w w16) := bt FB.out hbq
  have FA : Hid (Box w16 w.heap.size #[Value.string k1, .string n1, .string t1, .slice a V.length cap, .bool e1, .slice a' Ho.length cap', .int .i64 r1]) := FA.out.on hbq
  have FC : Hid (Box w16 (w.heap.size + 1) #[Value.string k2, .string n2, .string t2, .slice b U.length dap, .bool e2, .slice b' Hu.length dap', .int .i64 r2]) := FC.out.on hbq
  have FV := hide (FV.out.below hbq)
  have FH := hide (FH.out.below hbq)
  have FX : Hid (Box w16 w8.heap.size #[Value.string k1, .string n1, .string t1, .slice a7 V.length cap7, .bool e1, .slice a7' Ho.length cap7', .int .i64 r1]) := FX.out.on hbq
  have FU := hide (FU.out.below hbq)
  have FG := hide (FG.out.below hbq)
  have FY : Hid (Box w16 w9.heap.size #[Value.string k2, .string n2, .string t2, .slice b7 U.length dap7, .bool e2, .slice b7' Hu.length dap7', .int .i64 r2]) := FY.out.on hbq
  clear hbq hbm hbn HDn HV12 HH12
  try clear HD
  have FZ := hide FB.out
  clear FB FA FC FX FY FV FH FU FG
  go_wp2
  go_ret
  exact ⟨rfl, FZ.out⟩
end
end Go.Proofs.YtckdcejbojhlcaaGreatDoor
