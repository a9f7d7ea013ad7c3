
import Derived.Test.YtlednecohppljaaGM4
import Derived.Test.YtlednecohppljaaGSm
import Derived.Test.YtlednecohppljaaGSh
import Derived.Test.YtlednecohppljaaGSt
namespace Go.Proofs.Ytlednecohppljaa
open Go.RowKit Go.Deep

theorem rss_small {L : List Rs} (h : L.length ≤ 1048576) : RssSmall L := ⟨h, fun _ _ => rfl⟩
theorem merge_size {A B : List Rs} (ha : RssSmall A) (hb : RssSmall B) : RssSmall (mergeL A B) := rss_small (by rw [mergeL_len]; have := ha.1; have := hb.1; omega)

set_option maxRecDepth 20000 in
set_option maxHeartbeats 16000000 in
theorem law_merge (va vb : Value) (A B : List Rs) (w : World) (ha : RssAt 0 w va A) (hb : RssAt 0 w vb B) :
    Calls Try.prog 3 #[va, vb] w fun e w' => e = .returned (.bool true) ∧ Below w.heap.size w w' := by
  have HVA := hide ha
  have HVB := hide hb
  clear ha hb
  go_enter Try.func3, Try.ntmps3
  go_wp2_with fail
  refine (szRss_any 0 va A _ _ (by omega) (by omega) HVA.out).mono ?_
  rintro e w1 ⟨r1, rfl, hb1, p1, p2, p3⟩
  have HB : Hid (Below w.heap.size w w1) := hb1
  have HP1 := hide p3
  clear hb1 p3
  by_cases hn1 : r1 < 0
  · go_wp2
    go_ret
    exact ⟨rfl, HB.out⟩
  have HSA : Hid (RssSmall A) := HP1.out (by omega)
  clear HP1
  go_wp2_with fail
  refine (szRss_any 0 vb B _ _ (by omega) (by omega) (HVB.out.below HB.out)).mono ?_
  rintro e w2 ⟨r2, rfl, hb2, p4, p5, p6⟩
  replace HB : Hid (Below w.heap.size w w2) := bt HB.out hb2
  have HP2 := hide p6
  clear hb2 p6
  by_cases hn2 : r2 < 0
  · go_wp2
    go_ret
    exact ⟨rfl, HB.out⟩
  have HSB : Hid (RssSmall B) := HP2.out (by omega)
  clear HP2 hn1 p1 p2 p4 p5
  have HSM : Hid (RssSmall (mergeL A B)) := merge_size HSA.out HSB.out
  have hz0 : w.heap.size ≤ w2.heap.size := HB.out.size
  go_wp2_with fail
  refine (toRssO_any 0 _ A _ (HVA.out.below HB.out) HSA.out).mono ?_
  rintro e w3 ⟨x1, rfl, hb, ho⟩
  have hz3 : w2.heap.size ≤ w3.heap.size := hb.size
  replace HB : Hid (Below w.heap.size w w3) := bt HB.out hb
  clear hb
  have X1 := hide ho
  clear ho
  go_wp2_with fail
  refine (toRssO_any 0 _ B _ (HVB.out.below HB.out) HSB.out).mono ?_
  rintro e w4 ⟨x2, rfl, hb, ho⟩
  have hz4 : w3.heap.size ≤ w4.heap.size := hb.size
  replace HB : Hid (Below w.heap.size w w4) := bt HB.out hb
  replace X1 := hide (X1.out.below hb)
  clear hb
  have X2 := hide ho
  clear ho
  go_wp2_with fail
  refine (specMerge_any 0 _ _ A B _ (X1.out.at.mono (Nat.zero_le _)) (X2.out.at.mono (Nat.zero_le _)) HSA.out.1 HSB.out.1).mono ?_
  rintro e w5 ⟨t6, rfl, hb, ho⟩
  have hz5 : w4.heap.size ≤ w5.heap.size := hb.size
  replace HB : Hid (Below w.heap.size w w5) := bt HB.out hb
  replace X1 := hide (X1.out.below hb)
  replace X2 := hide (X2.out.below hb)
  clear hb
  have S6 := hide ho
  clear ho
  clear X1 X2
  go_wp2_with fail
  refine (toRssO_any 0 _ A _ (HVA.out.below HB.out) HSA.out).mono ?_
  rintro e w6 ⟨t7, rfl, hb, ho⟩
  have hz6 : w5.heap.size ≤ w6.heap.size := hb.size
  replace HB : Hid (Below w.heap.size w w6) := bt HB.out hb
  replace S6 := hide (S6.out.below hb)
  clear hb
  have T7 := hide ho
  clear ho
  go_wp2_with fail
  refine (toRssO_any 0 _ B _ (HVB.out.below HB.out) HSB.out).mono ?_
  rintro e w7 ⟨t8, rfl, hb, ho⟩
  have hz7 : w6.heap.size ≤ w7.heap.size := hb.size
  replace HB : Hid (Below w.heap.size w w7) := bt HB.out hb
  replace S6 := hide (S6.out.below hb)
  replace T7 := hide (T7.out.below hb)
  clear hb
  have T8 := hide ho
  clear ho
  go_wp2_with fail
  refine (implMerge_any 0 _ _ A B _ (T7.out.at.mono (Nat.zero_le _)) (T8.out.at.mono (Nat.zero_le _)) HSA.out.1 HSB.out.1).mono ?_
  rintro e w8 ⟨t9, rfl, hb, ho⟩
  have hz8 : w7.heap.size ≤ w8.heap.size := hb.size
  replace HB : Hid (Below w.heap.size w w8) := bt HB.out hb
  replace S6 := hide (S6.out.below hb)
  replace T7 := hide (T7.out.below hb)
  replace T8 := hide (T8.out.below hb)
  clear hb
  have T9 := hide ho
  clear ho
  go_wp2_with fail
  refine (eqRss_same _ _ _ _ _ _ T9.out.at S6.out.at).mono ?_
  rintro e w9 ⟨rfl, hb⟩
  have hz9 : w8.heap.size ≤ w9.heap.size := hb.size
  replace HB : Hid (Below w.heap.size w w9) := bt HB.out hb
  replace S6 := hide (S6.out.below hb)
  replace T7 := hide (T7.out.below hb)
  replace T8 := hide (T8.out.below hb)
  replace T9 := hide (T9.out.below hb)
  clear hb
  go_wp2_with fail
  refine (toRssO_any 0 _ A _ (HVA.out.below HB.out) HSA.out).mono ?_
  rintro e w10 ⟨x1, rfl, hb, ho⟩
  have hz10 : w9.heap.size ≤ w10.heap.size := hb.size
  replace HB : Hid (Below w.heap.size w w10) := bt HB.out hb
  replace S6 := hide (S6.out.below hb)
  replace T7 := hide (T7.out.below hb)
  replace T8 := hide (T8.out.below hb)
  replace T9 := hide (T9.out.below hb)
  clear hb
  have X1 := hide ho
  clear ho
  go_wp2_with fail
  refine (eqRss_same _ _ _ _ _ _ T7.out.at X1.out.at).mono ?_
  rintro e w11 ⟨rfl, hb⟩
  have hz11 : w10.heap.size ≤ w11.heap.size := hb.size
  replace HB : Hid (Below w.heap.size w w11) := bt HB.out hb
  replace S6 := hide (S6.out.below hb)
  replace T7 := hide (T7.out.below hb)
  replace T8 := hide (T8.out.below hb)
  replace T9 := hide (T9.out.below hb)
  replace X1 := hide (X1.out.below hb)
  clear hb
  clear X1
  go_wp2_with fail
  refine (toRssO_any 0 _ B _ (HVB.out.below HB.out) HSB.out).mono ?_
  rintro e w12 ⟨x2, rfl, hb, ho⟩
  have hz12 : w11.heap.size ≤ w12.heap.size := hb.size
  replace HB : Hid (Below w.heap.size w w12) := bt HB.out hb
  replace S6 := hide (S6.out.below hb)
  replace T7 := hide (T7.out.below hb)
  replace T8 := hide (T8.out.below hb)
  replace T9 := hide (T9.out.below hb)
  clear hb
  have X2 := hide ho
  clear ho
  go_wp2_with fail
  refine (eqRss_same _ _ _ _ _ _ T8.out.at X2.out.at).mono ?_
  rintro e w13 ⟨rfl, hb⟩
  have hz13 : w12.heap.size ≤ w13.heap.size := hb.size
  replace HB : Hid (Below w.heap.size w w13) := bt HB.out hb
  replace S6 := hide (S6.out.below hb)
  replace T7 := hide (T7.out.below hb)
  replace T8 := hide (T8.out.below hb)
  replace T9 := hide (T9.out.below hb)
  replace X2 := hide (X2.out.below hb)
  clear hb
  clear X2
  have zA := posRs_le HSA.out (Nat.le_refl _)
  have zB := posRs_le HSB.out (Nat.le_refl _)
  have zM := posRs_le HSM.out (Nat.le_refl _)
  have lA := HSA.out.1
  have lB := HSB.out.1
  have lM := HSM.out.1
  obtain ⟨qa, hqa⟩ : ∃ q : Nat, q = posRs A A.length := ⟨_, rfl⟩
  rw [← hqa] at zA
  go_wp2_with fail
  refine (markRss_any w5.heap.size w6.heap.size _ A 1 _ T7.out HSA.out (by omega) (by omega)).mono ?_
  rintro e w14 ⟨rfl, ht, ho⟩
  have hz14 : w13.heap.size ≤ w14.heap.size := ht.size
  replace HB : Hid (Below w.heap.size w w14) := HB.out.trans ((ht.under (by omega)).mono (by omega))
  replace S6 := hide (S6.out.touch ht (by omega))
  replace T8 := hide (T8.out.touch ht (by omega))
  replace T9 := hide (T9.out.touch ht (by omega))
  clear ht
  clear T7
  have T7 := hide ho
  clear ho
  rw [← hqa]
  clear hqa
  go_wp2_with fail
  refine (markRss_any w6.heap.size w7.heap.size _ B (1 + (qa : Int)) _ T8.out HSB.out (by omega) (by omega)).mono ?_
  rintro e w15 ⟨rfl, ht, ho⟩
  have hz15 : w14.heap.size ≤ w15.heap.size := ht.size
  replace HB : Hid (Below w.heap.size w w15) := HB.out.trans ((ht.under (by omega)).mono (by omega))
  replace S6 := hide (S6.out.touch ht (by omega))
  replace T7 := hide (T7.out.touch ht (by omega))
  replace T9 := hide (T9.out.touch ht (by omega))
  clear ht
  clear T8
  have T8 := hide ho
  clear ho
  obtain ⟨qb, hqb⟩ : ∃ q : Nat, q = posRs B B.length := ⟨_, rfl⟩
  rw [← hqb] at zB
  rw [← hqb]
  clear hqb
  clear T7 T8
  go_wp2_with fail
  refine (eqRss_same _ _ _ _ _ _ T9.out.at S6.out.at).mono ?_
  rintro e w16 ⟨rfl, hb⟩
  have hz16 : w15.heap.size ≤ w16.heap.size := hb.size
  replace HB : Hid (Below w.heap.size w w16) := bt HB.out hb
  replace S6 := hide (S6.out.below hb)
  replace T9 := hide (T9.out.below hb)
  clear hb
  go_wp2_with fail
  refine (markRss_any w7.heap.size w8.heap.size _ (mergeL A B) 1 _ T9.out HSM.out (by omega) (by omega)).mono ?_
  rintro e w17 ⟨rfl, ht, ho⟩
  have hz17 : w16.heap.size ≤ w17.heap.size := ht.size
  replace HB : Hid (Below w.heap.size w w17) := HB.out.trans ((ht.under (by omega)).mono (by omega))
  replace S6 := hide (S6.out.touch ht (by omega))
  clear ht
  clear T9
  have T9 := hide ho
  clear ho
  obtain ⟨qm, hqm⟩ : ∃ q : Nat, q = posRs (mergeL A B) (mergeL A B).length := ⟨_, rfl⟩
  rw [← hqm] at zM
  rw [← hqm]
  go_wp2_with fail
  refine (heldRss_any w7.heap.size w8.heap.size _ (mergeL A B) 1 _ T9.out HSM.out (by omega) (by omega)).mono ?_
  rintro e w18 ⟨rfl, hb⟩
  have hz18 : w17.heap.size ≤ w18.heap.size := hb.size
  replace HB : Hid (Below w.heap.size w w18) := bt HB.out hb
  replace S6 := hide (S6.out.below hb)
  replace T9 := hide (T9.out.below hb)
  clear hb
  rw [← hqm]
  go_wp2_with fail
  refine (toRssO_any 0 _ A _ (HVA.out.below HB.out) HSA.out).mono ?_
  rintro e w19 ⟨x1, rfl, hb, ho⟩
  have hz19 : w18.heap.size ≤ w19.heap.size := hb.size
  replace HB : Hid (Below w.heap.size w w19) := bt HB.out hb
  replace S6 := hide (S6.out.below hb)
  replace T9 := hide (T9.out.below hb)
  clear hb
  have X1 := hide ho
  clear ho
  go_wp2_with fail
  refine (toRssO_any 0 _ B _ (HVB.out.below HB.out) HSB.out).mono ?_
  rintro e w20 ⟨x2, rfl, hb, ho⟩
  have hz20 : w19.heap.size ≤ w20.heap.size := hb.size
  replace HB : Hid (Below w.heap.size w w20) := bt HB.out hb
  replace S6 := hide (S6.out.below hb)
  replace T9 := hide (T9.out.below hb)
  replace X1 := hide (X1.out.below hb)
  clear hb
  have X2 := hide ho
  clear ho
  go_wp2_with fail
  refine (implMerge_any 0 _ _ A B _ (X1.out.at.mono (Nat.zero_le _)) (X2.out.at.mono (Nat.zero_le _)) HSA.out.1 HSB.out.1).mono ?_
  rintro e w21 ⟨t13, rfl, hb, ho⟩
  have hz21 : w20.heap.size ≤ w21.heap.size := hb.size
  replace HB : Hid (Below w.heap.size w w21) := bt HB.out hb
  replace S6 := hide (S6.out.below hb)
  replace T9 := hide (T9.out.below hb)
  replace X1 := hide (X1.out.below hb)
  replace X2 := hide (X2.out.below hb)
  clear hb
  have T13 := hide ho
  clear ho
  go_wp2_with fail
  refine (eqRss_same _ _ _ _ _ _ T13.out.at S6.out.at).mono ?_
  rintro e w22 ⟨rfl, hb⟩
  have hz22 : w21.heap.size ≤ w22.heap.size := hb.size
  replace HB : Hid (Below w.heap.size w w22) := bt HB.out hb
  replace S6 := hide (S6.out.below hb)
  replace T9 := hide (T9.out.below hb)
  replace X1 := hide (X1.out.below hb)
  replace X2 := hide (X2.out.below hb)
  replace T13 := hide (T13.out.below hb)
  clear hb
  go_wp2_with fail
  refine (heldRss_any w7.heap.size w8.heap.size _ (mergeL A B) 1 _ T9.out HSM.out (by omega) (by omega)).mono ?_
  rintro e w23 ⟨rfl, hb⟩
  have hz23 : w22.heap.size ≤ w23.heap.size := hb.size
  replace HB : Hid (Below w.heap.size w w23) := bt HB.out hb
  replace S6 := hide (S6.out.below hb)
  replace T9 := hide (T9.out.below hb)
  replace X1 := hide (X1.out.below hb)
  replace X2 := hide (X2.out.below hb)
  replace T13 := hide (T13.out.below hb)
  clear hb
  rw [← hqm]
  go_wp2
  go_ret
  exact ⟨rfl, HB.out⟩
end Go.Proofs.Ytlednecohppljaa
