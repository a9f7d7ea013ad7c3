import Derived.Test.YtckdcejbojhlcaaW10
namespace Go.Proofs.Ytckdcejbojhlcaa
open Go.RowKit Go.Deep
section
variable (nm to df we : ByteArray) (kd le mo ro : Int) (mu fx : Bool) (wv : Value) (L : List ByteArray) (s : ByteArray) (w : World)

set_option maxHeartbeats 1000000 in
theorem law_fits (hv : StrsAt w wv L) (hs : s.size ≤ maxLen) (s1 : nm.size ≤ maxLen) (s2 : to.size ≤ maxLen) (s3 : df.size ≤ maxLen) (s4 : we.size ≤ maxLen) :
    Calls Try.prog 3 #[.agg #[.string nm, .int .i64 kd, .int .i64 le, .int .i64 mo, wv, .string to, .int .i64 ro, .bool mu, .bool fx, .string df, .string we], .string s] w
      fun e w' => e = .returned (.bool true) ∧ Below w.heap.size w w' := by
  have HV := hide hv
  have HS := hide hs
  have S1 := hide s1
  have S2 := hide s2
  have S3 := hide s3
  have S4 := hide s4
  obtain ⟨a, n, cap, rfl⟩ := hv.form
  unfold maxLen at hs
  clear hv s1 s2 s3 s4
  have HW : ∀ o, Hid (Below w.heap.size w (w.alloc o)) := fun o => (Below.refl _ _).alloc (Nat.le_refl _) _
  by_cases hbig : (1048576 : Int) < s.size
  · go_enter Try.func3, Try.ntmps3
    go_wp2
    go_ret
    exact ⟨rfl, (HW _).out⟩
  go_enter Try.func3, Try.ntmps3
  go_wp2_with fail
  refine (szField_any _ _ _ _ _ _ _ _ _ _ _ L _ _ (HV.out.below (HW _).out) (by omega) (by omega) S1.out S2.out S3.out S4.out).mono ?_
  rintro e w1 ⟨r, rfl, hb1, hr0, hr1, hr2⟩
  have hz1 : w.heap.size < w1.heap.size := by have := hb1.size; simp at this; omega
  have HB1 : Hid (Below w.heap.size w w1) := (HW _).out.trans (hb1.mono (by simp))
  obtain ⟨hc1, _⟩ := bcell hb1
  have HC1 := hide hb1
  clear hb1
  by_cases hneg : r < 0
  · go_wp2
    go_ret
    exact ⟨rfl, HB1.out⟩
  have hL : Hid (L.length ≤ 1048576) := by have := hr2 (by omega); unfold Hid; omega
  clear hr0 hr1 hr2
  go_wp2_with fail
  refine (toField_any _ _ _ _ _ _ _ _ _ _ _ L _ (HV.out.below HB1.out) hL.out).mono ?_
  rintro e w2 ⟨v2, rfl, hb2, hs2⟩
  obtain ⟨a2, n2, cap2, rfl⟩ := hs2.form
  have HS2 := hide hs2
  have HB2 := hide hb2
  clear hs2 hb2
  go_wp2_with fail
  refine (specFits_any _ _ _ _ _ _ _ _ _ _ L _ _ _ HS2.out.at HS.out).mono ?_
  rintro e w3 ⟨rfl, hb3⟩
  have HC3 : Hid (Below w1.heap.size w1 w3) := HB2.out.trans (hb3.mono HB2.out.size)
  have hz3 : w.heap.size < w3.heap.size := Nat.lt_of_lt_of_le hz1 HC3.out.size
  have hc3 : ∀ o, w3.cell? ⟨w.heap.size, o, none⟩ = w1.cell? ⟨w.heap.size, o, none⟩ := fun o => HC3.out.cell (p := ⟨w.heap.size, o, none⟩) hz1
  have HB3 : Hid (Below w.heap.size w w3) := HB1.out.trans (HC3.out.mono HB1.out.size)
  clear hb3 HS2 HB2
  go_wp2_with fail
  refine (toField_any _ _ _ _ _ _ _ _ _ _ _ L _ (HV.out.below HB3.out) hL.out).mono ?_
  rintro e w4 ⟨v4, rfl, hb4, hs4⟩
  obtain ⟨a4, n4, cap4, rfl⟩ := hs4.form
  have HS4 := hide hs4
  have hc4 : ∀ o, w4.cell? ⟨w.heap.size, o, none⟩ = w3.cell? ⟨w.heap.size, o, none⟩ := fun o => hb4.cell (p := ⟨w.heap.size, o, none⟩) hz3
  have hz4 : w.heap.size < w4.heap.size := Nat.lt_of_lt_of_le hz3 hb4.size
  have HB4 : Hid (Below w.heap.size w w4) := HB3.out.trans (hb4.mono HB3.out.size)
  clear hb4 hs4
  go_wp2_with fail
  have hW4 : ∀ o, Hid (Below w4.heap.size w4 (w4.alloc o)) := fun o => (Below.refl _ _).alloc (Nat.le_refl _) _
  refine (implFits_any _ _ _ _ _ _ _ _ _ _ L _ _ _ (HS4.out.below (hW4 _).out).at HS.out).mono ?_
  rintro e w5 ⟨rfl, hb5⟩
  have hz5 : w4.heap.size < w5.heap.size := by have := hb5.size; simp at this; omega
  have hz5' : w.heap.size < w5.heap.size := by omega
  obtain ⟨hc5, _⟩ := bcell hb5
  have HS5 : Hid (StrsAt w5 (.slice a4 n4 cap4) L) := ((HS4.out.below (hW4 _).out).below hb5).at
  have HB5 : Hid (Below w.heap.size w w5) := HB4.out.trans (((hW4 _).out.mono (by omega)).trans (hb5.mono (by simp; omega)))
  have hcA : ∀ o, w5.cell? ⟨w.heap.size, o, none⟩ = w4.cell? ⟨w.heap.size, o, none⟩ := fun o => by
    rw [hb5.cell (p := ⟨w.heap.size, o, none⟩) (by simp; omega), (hW4 _).out.cell (p := ⟨w.heap.size, o, none⟩) hz4]
  clear hb5 HS4
  go_wp2_with fail
  go_region_with (first
    | (go_at_call 8; refine (toField_any _ _ _ _ _ _ _ _ _ _ _ L _ ((HV.out.below HB5.out).below (Below.drew (Below.refl _ _))) hL.out).mono ?_; rintro e w6 ⟨v6, rfl, hb6, hs6⟩; obtain ⟨a6, n6, cap6, rfl⟩ := hs6.form; have hc6 : ∀ o, w6.cell? ⟨w4.heap.size, o, none⟩ = w5.cell? ⟨w4.heap.size, o, none⟩ := fun o => hb6.cell (p := ⟨w4.heap.size, o, none⟩) hz5; have HS6 := hide hs6; have HB6 : Hid (Below w5.heap.size w5 w6) := (Below.drew (Below.refl _ _)).trans hb6; clear hs6 hb6)
    | (go_at_call 10; refine (eqField_same _ _ _ _ _ _ _ _ _ _ _ _ L _ (HS5.out.below HB6.out) HS6.out.at).mono ?_; rintro e w7 ⟨rfl, hb7⟩; have HB7 : Hid (Below w.heap.size w w7) := HB5.out.trans ((HB6.out.mono HB5.out.size).trans (hb7.mono (Nat.le_trans HB5.out.size HB6.out.size))); clear hb7))
  all_goals go_wp2
  all_goals go_ret
  all_goals exact ⟨rfl, HB7.out⟩
end
end Go.Proofs.Ytckdcejbojhlcaa
