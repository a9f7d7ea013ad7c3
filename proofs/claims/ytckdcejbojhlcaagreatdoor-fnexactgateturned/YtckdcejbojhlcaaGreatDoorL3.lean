import Derived.Test.YtckdcejbojhlcaaGreatDoorE6
namespace Go.Proofs.YtckdcejbojhlcaaGreatDoor
open Go.RowKit Go.Deep

section
variable (kind nm team : ByteArray) (vv hv sv : Value) (en : Bool) (ver : Int) (V Ho : List ByteArray) (Ss : List Sh) (w : World) (lo : Nat)
set_option maxRecDepth 20000 in
set_option maxHeartbeats 4000000 in
theorem law_check (hS : ShsAt lo w sv Ss) (hV : StrsAt w vv V) (hH : StrsAt w hv Ho) (s1 : kind.size ≤ maxLen) (s2 : nm.size ≤ maxLen) (s3 : team.size ≤ maxLen) (hg : Laid w) :
    Calls Tryz.prog 3 #[sv, .agg #[.string kind, .string nm, .string team, vv, .bool en, hv, .int .i64 ver]] w fun e w' => e = .returned (.bool true) ∧ Below w.heap.size w w' := by
  have HV := hide hV
  have HH := hide hH
  have HS := hide hS
  have HL := hide hg
  obtain ⟨a, cap, rfl⟩ := hV.formz
  obtain ⟨a', cap', rfl⟩ := hH.formz
  obtain ⟨a1, cap1, rfl⟩ := hS.form
  clear hV hH hS hg
  have HW : ∀ o, Hid (Below w.heap.size w (w.alloc o)) := fun o => (Below.refl _ _).alloc (Nat.le_refl _) _
  have HN : ∀ cs t, Hid (Box (w.alloc (.cells cs t)) w.heap.size cs) := fun cs t => Box.new _ _ _ _ rfl
  go_enter Tryz.func3, Tryz.ntmps3
  go_wp2_with fail
  refine (szShs_any lo _ Ss _ _ (by omega) (by omega) (HS.out.below (HW _).out)).mono ?_
  rintro e w1 ⟨r, rfl, hb1, hr0, hr1, hr2⟩
  have HB1 : Hid (Below w.heap.size w w1) := (HW _).out.trans (hb1.mono (by simp))
  have HA1 : Hid (Box w1 w.heap.size _) := (HN _ _).out.on hb1
  have HQ := hide hr2
  clear hb1 hr2
  by_cases hneg : r < 0
  · go_wp2
    go_ret
    exact ⟨rfl, HB1.out⟩
  have hSm : Hid (ShsSmall Ss) := HQ.out (by omega)
  clear HQ
  have g1 := HA1.out.cell
  go_wp2_with fail
  refine (szObj_any _ _ _ _ _ _ _ V Ho _ r (HV.out.below HB1.out) (HH.out.below HB1.out) (by omega) (by omega) s1 s2 s3).mono ?_
  rintro e w2 ⟨r2, rfl, hb2, hq0, hq1, hq2⟩
  have HB2 : Hid (Below w.heap.size w w2) := HB1.out.trans (hb2.mono HB1.out.size)
  have HA2 : Hid (Box w2 w.heap.size _) := HA1.out.on hb2
  have HQ2 := hide hq2
  clear hb2 hq2 g1 HA1
  by_cases hneg2 : r2 < 0
  · go_wp2
    go_ret
    exact ⟨rfl, HB2.out⟩
  have HM : Hid (V.length ≤ 1048576 ∧ Ho.length ≤ 1048576) := by have := HQ2.out (by omega); unfold Hid; omega
  clear HQ2 hr0 hr1 hq0 hq1 HN HW
  go_wp2_with fail
  go_region_held3 (fun W => (∀ i, W.cell? ⟨w.heap.size, i, none⟩ = (#[Value.string kind, .string nm, .string team, .slice a V.length cap, .bool en, .slice a' Ho.length cap', .int .i64 ver] : Array Value)[i]?) ∧ w.heap.size < W.heap.size ∧ Hid (Below w.heap.size w W ∧ ∀ i, W.frozen? ⟨w.heap.size, i, none⟩ = false))
    (first
      | (with_reducible exact Held.drew HA2.out HB2.out)
      | (with_reducible exact Held.on (by assumption) (by assumption)))
    (first
      | (go_at_call 8
         refine (toShs_any lo _ Ss _ (Held.shs (by assumption) HS.out) hSm.out).mono ?_
         rintro e w3 ⟨v3, rfl, hb3, hs3⟩
         obtain ⟨a3, cap3, rfl⟩ := hs3.form
         have HS3 := hide hs3
         have HD3 : Hid (Below w2.heap.size w2 w3) := by with_reducible exact hide (drew_on hb3)
         clear hs3)
      | (go_at_call 9
         refine (toObj_any _ _ _ _ _ _ _ V Ho _ (Held.strs (by assumption) HV.out) (Held.strs (by assumption) HH.out) HM.out.1 HM.out.2).mono ?_
         rintro e w4 ⟨v4, h4, rfl, hb4, hv4, hh4⟩
         obtain ⟨a4, cap4, rfl⟩ := hv4.at.formz
         obtain ⟨a4', cap4', rfl⟩ := hh4.at.formz
         have HV4 := hide hv4.at
         have HH4 := hide hh4.at
         have HD4 : Hid (Below w2.heap.size w2 w4) := bt HD3.out hb4
         clear hv4 hh4)
      | (go_at_call 7
         refine (specCheck_any _ _ _ _ _ _ _ _ V Ho Ss _ _ (HS3.out.below hb4) HV4.out HH4.out s2 s3).mono ?_
         rintro e w5 ⟨rfl, hb5⟩
         have HD5 : Hid (Below w2.heap.size w2 w5) := bt HD4.out hb5))
  have hbd := HD5.out
  have FB : Hid (Below w.heap.size w w5) := HB2.out.trans (hbd.mono HB2.out.size)
  have FA : Hid (Box w5 w.heap.size #[Value.string kind, .string nm, .string team, .slice a V.length cap, .bool en, .slice a' Ho.length cap', .int .i64 ver]) := HA2.out.on hbd
  clear hbd hb3 hb4 hb5 HD3 HD4 HD5 HS3 HV4 HH4 HA2 HB2
  generalize hG1 : (checkG Ss kind nm team V Ho ver).1 = p1
  generalize hG2 : (checkG Ss kind nm team V Ho ver).2 = p2
  have HG1 := hide hG1
  have HG2 := hide hG2
  clear hG1 hG2
  go_wp2_with fail
  refine (toShs_any lo _ Ss _ (HS.out.below FB.out) hSm.out).mono ?_
  rintro e w6 ⟨v6, rfl, hb6, hs6⟩
  obtain ⟨a6, cap6, rfl⟩ := hs6.form
  have FB : Hid (Below w.heap.size w w6) := bt FB.out hb6
  have FA : Hid (Box w6 w.heap.size #[Value.string kind, .string nm, .string team, .slice a V.length cap, .bool en, .slice a' Ho.length cap', .int .i64 ver]) := FA.out.on hb6
  have FS := hide hs6
  clear hb6 hs6
  have g1 := FA.out.cell
  go_wp2_with fail
  refine (toObj_any _ _ _ _ _ _ _ V Ho _ (HV.out.below FB.out) (HH.out.below FB.out) HM.out.1 HM.out.2).mono ?_
  rintro e w7 ⟨v7, h7, rfl, hb7, hv7, hh7⟩
  obtain ⟨a7, cap7, rfl⟩ := hv7.at.formz
  obtain ⟨a7', cap7', rfl⟩ := hh7.at.formz
  have FB : Hid (Below w.heap.size w w7) := bt FB.out hb7
  have FA : Hid (Box w7 w.heap.size #[Value.string kind, .string nm, .string team, .slice a V.length cap, .bool en, .slice a' Ho.length cap', .int .i64 ver]) := FA.out.on hb7
  have FS := hide (FS.out.below hb7)
  have FV := hide hv7.at
  have FH := hide hh7.at
  clear hb7 hv7 hh7 g1
  go_wp2_with fail
  generalize hW7 : w7.alloc _ = W7
  have hbW7 : Below w7.heap.size w7 W7 := by rw [← hW7]; exact one_al _ _
  have FX : Hid (Box W7 w7.heap.size #[Value.string kind, .string nm, .string team, .slice a7 V.length cap7, .bool en, .slice a7' Ho.length cap7', .int .i64 ver]) := by rw [← hW7]; exact Box.new _ _ _ _ rfl
  have FB : Hid (Below w.heap.size w W7) := bt FB.out hbW7
  have FA : Hid (Box W7 w.heap.size #[Value.string kind, .string nm, .string team, .slice a V.length cap, .bool en, .slice a' Ho.length cap', .int .i64 ver]) := FA.out.on hbW7
  have FS := hide (FS.out.below hbW7)
  have FV := hide (FV.out.below hbW7)
  have FH := hide (FH.out.below hbW7)
  clear hbW7 hW7
  refine (implCheck_any _ _ _ _ _ _ _ _ V Ho Ss _ _ FS.out FV.out FH.out s2 s3 (HL.out.on FB.out)).mono ?_
  rintro e w8 ⟨rfl, hb8⟩
  have FB : Hid (Below w.heap.size w w8) := bt FB.out hb8
  have FA : Hid (Box w8 w.heap.size #[Value.string kind, .string nm, .string team, .slice a V.length cap, .bool en, .slice a' Ho.length cap', .int .i64 ver]) := FA.out.on hb8
  have FX := hide (FX.out.on hb8)
  have FS := hide (FS.out.below hb8)
  have FV := hide (FV.out.below hb8)
  have FH := hide (FH.out.below hb8)
  clear hb8
  rw [HG1.out, HG2.out]
  clear HG1 HG2
  go_wp2_with fail
  refine (toShs_any lo _ Ss _ (HS.out.below FB.out) hSm.out).mono ?_
  rintro e w9 ⟨v9, rfl, hb9, hs9⟩
  obtain ⟨a9, cap9, rfl⟩ := hs9.form
  have FB : Hid (Below w.heap.size w w9) := bt FB.out hb9
  have FA : Hid (Box w9 w.heap.size #[Value.string kind, .string nm, .string team, .slice a V.length cap, .bool en, .slice a' Ho.length cap', .int .i64 ver]) := FA.out.on hb9
  have FX := hide (FX.out.on hb9)
  have FS := hide (FS.out.below hb9)
  have FV := hide (FV.out.below hb9)
  have FH := hide (FH.out.below hb9)
  have FS9 := hide hs9
  clear hb9 hs9
  go_wp2_with fail
  refine (eqShs_same _ _ _ _ Ss _ FS.out FS9.out).mono ?_
  rintro e w11 ⟨rfl, hb11⟩
  have FB : Hid (Below w.heap.size w w11) := bt FB.out hb11
  have FA : Hid (Box w11 w.heap.size #[Value.string kind, .string nm, .string team, .slice a V.length cap, .bool en, .slice a' Ho.length cap', .int .i64 ver]) := FA.out.on hb11
  have FX := hide (FX.out.on hb11)
  have FV := hide (FV.out.below hb11)
  have FH := hide (FH.out.below hb11)
  clear hb11 FS FS9
  go_wp2_with fail
  go_region_held3 (fun W => (∀ i, W.cell? ⟨w7.heap.size, i, none⟩ = (#[Value.string kind, .string nm, .string team, .slice a7 V.length cap7, .bool en, .slice a7' Ho.length cap7', .int .i64 ver] : Array Value)[i]?) ∧ (∀ i, W.cell? ⟨w.heap.size, i, none⟩ = (#[Value.string kind, .string nm, .string team, .slice a V.length cap, .bool en, .slice a' Ho.length cap', .int .i64 ver] : Array Value)[i]?) ∧ Hid (Below w11.heap.size w11 W ∧ w7.heap.size < w11.heap.size ∧ w.heap.size < w11.heap.size))
    (first
      | (with_reducible exact Held2.drew FX.out FA.out)
      | (with_reducible exact Held2.on (by assumption) (by assumption)))
    (first
      | (go_at_call 9
         have HD := hide (FB.out.drew)
         refine (toObj_any _ _ _ _ _ _ _ V Ho _ (HV.out.below HD.out) (HH.out.below HD.out) HM.out.1 HM.out.2).mono ?_
         rintro e w12 ⟨v12, h12, rfl, hb12, ho7, ho8⟩
         obtain ⟨a12, cap12, rfl⟩ := ho7.at.formz
         obtain ⟨a13, cap13, rfl⟩ := ho8.at.formz
         have HV12 := hide ho7.at
         have HH12 := hide ho8.at
         clear ho7 ho8)
      | (go_at_call 12
         have HD : Hid (Below w11.heap.size w11 w12) := by with_reducible exact hide (drew_on hb12)
         refine (eqObj_same _ _ _ _ _ _ _ _ _ _ _ _ (FV.out.below HD.out) (FH.out.below HD.out) HV12.out HH12.out).mono ?_
         rintro e w13 ⟨rfl, hb13⟩
         have HD13 : Hid (Below w11.heap.size w11 w13) := bt HD.out hb13
         clear HD))
  have FZ : Hid (Below w.heap.size w w13) := bt FB.out HD13.out
  clear FB FA FX FV FH HD13 hb13 hb12 HV12 HH12
  go_wp2
  go_ret
  exact ⟨rfl, FZ.out⟩
end
end Go.Proofs.YtckdcejbojhlcaaGreatDoor
