import Derived.Test.YtjkkbkdpoebfaaaGreatV09
namespace Go.Proofs.YtjkkbkdpoebfaaaGreat
open Go.RowKit Go.Deep

theorem snd2 (n : Nat) (L : List ByteArray) : sound2 n L = (inB 1 6 (n : Int) && ascB L) := by unfold sound2; rw [inB_eq]
theorem role_eq (ro : Int) (mu : Bool) : role4 ro mu = (inB 1 3 ro && ((ro != 2) || !mu)) := by
  unfold role4 inB
  by_cases h1 : ro = 1
  · subst h1; simp
  by_cases h2 : ro = 2
  · subst h2; simp
  by_cases h3 : ro = 3
  · subst h3; simp
  have hx : ¬ (1 ≤ ro ∧ ro ≤ 3) := by omega
  simp [h1, h2, h3, hx]
theorem snd4 (Ss : List Sh) (to : ByteArray) (ro : Int) (mu : Bool) (df : ByteArray) : sound4 Ss to ro mu df = (hasK Ss to && inB 1 3 ro && df.toList.isEmpty && ((ro != 2) || !mu)) := by
  unfold sound4; rw [role_eq]; cases hasK Ss to <;> cases df.toList.isEmpty <;> cases inB 1 3 ro <;> simp

section
variable (nm to df we : ByteArray) (le mo ro : Int) (mu fx : Bool) (a : Option Addr) (L : List ByteArray) (cap : Nat) (w : World)

set_option maxHeartbeats 4000000 in
theorem specField1 (lo : Nat) (lv : Value) (Ss : List Sh) (hl : ShsAt lo w lv Ss) (hv : StrsAt w (.slice a L.length cap) L) (s0 : nm.size ≤ maxLen) (s9 : df.size ≤ maxLen) (s10 : we.size ≤ maxLen) :
    Calls Tryz.prog 56 #[lv, .agg #[.string nm, .int .i64 1, .int .i64 le, .int .i64 mo, .slice a L.length cap, .string to, .int .i64 ro, .bool mu, .bool fx, .string df, .string we]] w fun e w' => e = .returned (.bool (nameB nm && (bare1 L.length to ro && sound1 le mo we && (df.toList.isEmpty || fitsB 1 le mo L df)))) ∧ Below w.heap.size w w' := by
  have HL := hide hl
  have HV := hide hv
  have HW0 := hide s0
  have HW9 := hide s9
  have HW4 := hide s10
  obtain ⟨la, lcap, rfl⟩ := hl.form
  clear hl hv s0 s9 s10
  generalize hQ : (nameB nm && (bare1 L.length to ro && sound1 le mo we && (df.toList.isEmpty || fitsB 1 le mo L df))) = Q
  have HQ := hide hQ
  clear hQ
  have HW : ∀ o, Hid (Below w.heap.size w (w.alloc o)) := fun o => (Below.refl _ _).alloc (Nat.le_refl _) _
  go_enter Tryz.func56, Tryz.ntmps56
  go_wp2_with fail
  refine (nameOk_any _ _ HW0.out).mono ?_
  rintro e wx ⟨rfl, rfl⟩
  cases hnm : nameB nm with
  | false =>
    go_wp2
    go_ret
    exact ⟨ret_bool (by rw [← HQ.out, hnm]; rfl), (HW _).out⟩
  | true =>
    go_wp2_with fail
    refine (l1Bare1 nm to df we le mo ro mu fx a L.length cap _).mono ?_
    rintro e w1 ⟨rfl, hb1⟩
    have HC1 : Hid (Below (w.heap.size + 1) (w.alloc (.cells #[.string nm, .int .i64 1, .int .i64 le, .int .i64 mo, .slice a L.length cap, .string to, .int .i64 ro, .bool mu, .bool fx, .string df, .string we] 56)) w1) := by have := hb1; simp at this; exact this
    have HB1 : Hid (Below w.heap.size w w1) := (HW _).out.trans (hb1.mono (by simp))
    have hbx := fun i => box_cell w w1 #[.string nm, .int .i64 1, .int .i64 le, .int .i64 mo, .slice a L.length cap, .string to, .int .i64 ro, .bool mu, .bool fx, .string df, .string we] 56 HC1.out i
    clear hb1
    cases hbr : bare1 L.length to ro with
    | false =>
      go_wp2
      go_ret
      exact ⟨ret_bool (by rw [← HQ.out, hnm, hbr]; rfl), HB1.out⟩
    | true =>
      cases hd : df.toList.isEmpty with
      | true =>
        have hdf : (df.toList.isEmpty || fitsB 1 le mo L df) = true := by simp [hd]
        have HDF := hide hdf
        clear hdf
        by_cases h1 : 0 ≤ le
        · by_cases h2 : le ≤ mo
          · by_cases h3 : mo ≤ 1000000
            · cases he : we.toList.isEmpty with
              | true =>
                go_wp2
                go_ret
                exact ⟨ret_bool (by rw [← HQ.out, HDF.out, hnm, hbr]; simp [sound1, emptyOrName, h1, h2, h3, he]), HB1.out⟩
              | false =>
                go_wp2_with fail
                refine (nameOk_any _ _ HW4.out).mono ?_
                rintro e wx ⟨rfl, rfl⟩
                go_wp2
                go_ret
                exact ⟨ret_bool (by rw [← HQ.out, HDF.out, hnm, hbr]; simp [sound1, emptyOrName, h1, h2, h3, he]), HB1.out⟩
            · go_wp2
              go_ret
              exact ⟨ret_bool (by rw [← HQ.out, HDF.out, hnm, hbr]; rw [Bool.eq_iff_iff]; simp [sound1]; omega), HB1.out⟩
          · go_wp2
            go_ret
            exact ⟨ret_bool (by rw [← HQ.out, HDF.out, hnm, hbr]; rw [Bool.eq_iff_iff]; simp [sound1]; omega), HB1.out⟩
        · go_wp2
          go_ret
          exact ⟨ret_bool (by rw [← HQ.out, HDF.out, hnm, hbr]; rw [Bool.eq_iff_iff]; simp [sound1]; omega), HB1.out⟩
      | false =>
        go_wp2_with fail
        refine (specFits_any _ _ _ _ _ _ _ _ _ _ L _ _ _ (HV.out.below HB1.out) HW9.out).mono ?_
        rintro e w2 ⟨rfl, hb2⟩
        have HC2 : Hid (Below (w.heap.size + 1) (w.alloc (.cells #[.string nm, .int .i64 1, .int .i64 le, .int .i64 mo, .slice a L.length cap, .string to, .int .i64 ro, .bool mu, .bool fx, .string df, .string we] 56)) w2) := HC1.out.trans (hb2.mono (by have := HC1.out.size; simp at this; omega))
        have HB2 : Hid (Below w.heap.size w w2) := HB1.out.trans (hb2.mono HB1.out.size)
        have hbx2 := fun i => box_cell w w2 #[.string nm, .int .i64 1, .int .i64 le, .int .i64 mo, .slice a L.length cap, .string to, .int .i64 ro, .bool mu, .bool fx, .string df, .string we] 56 HC2.out i
        clear hb2 hbx
        cases hft : fitsB 1 le mo L df with
        | false =>
          go_wp2
          go_ret
          exact ⟨ret_bool (by rw [← HQ.out, hnm, hbr, hd, hft]; simp), HB2.out⟩
        | true =>
          have HDF : Hid ((df.toList.isEmpty || fitsB 1 le mo L df) = true) := by unfold Hid; simp [hft]
          by_cases h1 : 0 ≤ le
          · by_cases h2 : le ≤ mo
            · by_cases h3 : mo ≤ 1000000
              · cases he : we.toList.isEmpty with
                | true =>
                  go_wp2
                  go_ret
                  exact ⟨ret_bool (by rw [← HQ.out, HDF.out, hnm, hbr]; simp [sound1, emptyOrName, h1, h2, h3, he]), HB2.out⟩
                | false =>
                  go_wp2_with fail
                  refine (nameOk_any _ _ HW4.out).mono ?_
                  rintro e wx ⟨rfl, rfl⟩
                  go_wp2
                  go_ret
                  exact ⟨ret_bool (by rw [← HQ.out, HDF.out, hnm, hbr]; simp [sound1, emptyOrName, h1, h2, h3, he]), HB2.out⟩
              · go_wp2
                go_ret
                exact ⟨ret_bool (by rw [← HQ.out, HDF.out, hnm, hbr]; rw [Bool.eq_iff_iff]; simp [sound1]; omega), HB2.out⟩
            · go_wp2
              go_ret
              exact ⟨ret_bool (by rw [← HQ.out, HDF.out, hnm, hbr]; rw [Bool.eq_iff_iff]; simp [sound1]; omega), HB2.out⟩
          · go_wp2
            go_ret
            exact ⟨ret_bool (by rw [← HQ.out, HDF.out, hnm, hbr]; rw [Bool.eq_iff_iff]; simp [sound1]; omega), HB2.out⟩

set_option maxHeartbeats 4000000 in
theorem specField2 (lo : Nat) (lv : Value) (Ss : List Sh) (hl : ShsAt lo w lv Ss) (hv : StrsAt w (.slice a L.length cap) L) (s0 : nm.size ≤ maxLen) (s9 : df.size ≤ maxLen) (s10 : we.size ≤ maxLen) :
    Calls Tryz.prog 56 #[lv, .agg #[.string nm, .int .i64 2, .int .i64 le, .int .i64 mo, .slice a L.length cap, .string to, .int .i64 ro, .bool mu, .bool fx, .string df, .string we]] w fun e w' => e = .returned (.bool (nameB nm && (bare2 le mo to ro we && sound2 L.length L && (df.toList.isEmpty || fitsB 2 le mo L df)))) ∧ Below w.heap.size w w' := by
  have HL := hide hl
  have HV := hide hv
  have HW0 := hide s0
  have HW9 := hide s9
  have HW4 := hide s10
  obtain ⟨la, lcap, rfl⟩ := hl.form
  clear hl hv s0 s9 s10
  generalize hQ : (nameB nm && (bare2 le mo to ro we && sound2 L.length L && (df.toList.isEmpty || fitsB 2 le mo L df))) = Q
  have HQ := hide hQ
  clear hQ
  have HW : ∀ o, Hid (Below w.heap.size w (w.alloc o)) := fun o => (Below.refl _ _).alloc (Nat.le_refl _) _
  go_enter Tryz.func56, Tryz.ntmps56
  go_wp2_with fail
  refine (nameOk_any _ _ HW0.out).mono ?_
  rintro e wx ⟨rfl, rfl⟩
  cases hnm : nameB nm with
  | false =>
    go_wp2
    go_ret
    exact ⟨ret_bool (by rw [← HQ.out, hnm]; rfl), (HW _).out⟩
  | true =>
    go_wp2_with fail
    refine (l1Bare2 nm to df we le mo ro mu fx a L.length cap _).mono ?_
    rintro e w1 ⟨rfl, hb1⟩
    have HC1 : Hid (Below (w.heap.size + 1) (w.alloc (.cells #[.string nm, .int .i64 2, .int .i64 le, .int .i64 mo, .slice a L.length cap, .string to, .int .i64 ro, .bool mu, .bool fx, .string df, .string we] 56)) w1) := by have := hb1; simp at this; exact this
    have HB1 : Hid (Below w.heap.size w w1) := (HW _).out.trans (hb1.mono (by simp))
    have hbx := fun i => box_cell w w1 #[.string nm, .int .i64 2, .int .i64 le, .int .i64 mo, .slice a L.length cap, .string to, .int .i64 ro, .bool mu, .bool fx, .string df, .string we] 56 HC1.out i
    clear hb1
    cases hbr : bare2 le mo to ro we with
    | false =>
      go_wp2
      go_ret
      exact ⟨ret_bool (by rw [← HQ.out, hnm, hbr]; rfl), HB1.out⟩
    | true =>
      cases hd : df.toList.isEmpty with
      | true =>
        have hdf : (df.toList.isEmpty || fitsB 2 le mo L df) = true := by simp [hd]
        have HDF := hide hdf
        clear hdf
        go_wp2_with fail
        refine (in_any _ _ _ _).mono ?_
        rintro e wx ⟨rfl, rfl⟩
        cases hi : inB 1 6 (L.length : Int) with
        | true =>
          go_wp2_with fail
          refine (l1Asc_any _ L _ (HV.out.below HB1.out)).mono ?_
          rintro e wy ⟨rfl, hby⟩
          have HBy : Hid (Below w.heap.size w wy) := HB1.out.trans (hby.mono HB1.out.size)
          clear hby
          go_wp2
          go_ret
          exact ⟨ret_bool (by rw [← HQ.out, HDF.out, hnm, hbr, snd2, hi]; simp), HBy.out⟩
        | false =>
          go_wp2
          go_ret
          exact ⟨ret_bool (by rw [← HQ.out, HDF.out, hnm, hbr, snd2, hi]; simp), HB1.out⟩
      | false =>
        go_wp2_with fail
        refine (specFits_any _ _ _ _ _ _ _ _ _ _ L _ _ _ (HV.out.below HB1.out) HW9.out).mono ?_
        rintro e w2 ⟨rfl, hb2⟩
        have HC2 : Hid (Below (w.heap.size + 1) (w.alloc (.cells #[.string nm, .int .i64 2, .int .i64 le, .int .i64 mo, .slice a L.length cap, .string to, .int .i64 ro, .bool mu, .bool fx, .string df, .string we] 56)) w2) := HC1.out.trans (hb2.mono (by have := HC1.out.size; simp at this; omega))
        have HB2 : Hid (Below w.heap.size w w2) := HB1.out.trans (hb2.mono HB1.out.size)
        have hbx2 := fun i => box_cell w w2 #[.string nm, .int .i64 2, .int .i64 le, .int .i64 mo, .slice a L.length cap, .string to, .int .i64 ro, .bool mu, .bool fx, .string df, .string we] 56 HC2.out i
        clear hb2 hbx
        cases hft : fitsB 2 le mo L df with
        | false =>
          go_wp2
          go_ret
          exact ⟨ret_bool (by rw [← HQ.out, hnm, hbr, hd, hft]; simp), HB2.out⟩
        | true =>
          have HDF : Hid ((df.toList.isEmpty || fitsB 2 le mo L df) = true) := by unfold Hid; simp [hft]
          go_wp2_with fail
          refine (in_any _ _ _ _).mono ?_
          rintro e wx ⟨rfl, rfl⟩
          cases hi : inB 1 6 (L.length : Int) with
          | true =>
            go_wp2_with fail
            refine (l1Asc_any _ L _ (HV.out.below HB2.out)).mono ?_
            rintro e wy ⟨rfl, hby⟩
            have HBy : Hid (Below w.heap.size w wy) := HB2.out.trans (hby.mono HB2.out.size)
            clear hby
            go_wp2
            go_ret
            exact ⟨ret_bool (by rw [← HQ.out, HDF.out, hnm, hbr, snd2, hi]; simp), HBy.out⟩
          | false =>
            go_wp2
            go_ret
            exact ⟨ret_bool (by rw [← HQ.out, HDF.out, hnm, hbr, snd2, hi]; simp), HB2.out⟩

set_option maxHeartbeats 4000000 in
theorem specField3 (lo : Nat) (lv : Value) (Ss : List Sh) (hl : ShsAt lo w lv Ss) (hv : StrsAt w (.slice a L.length cap) L) (s0 : nm.size ≤ maxLen) (s9 : df.size ≤ maxLen) (s10 : we.size ≤ maxLen) :
    Calls Tryz.prog 56 #[lv, .agg #[.string nm, .int .i64 3, .int .i64 le, .int .i64 mo, .slice a L.length cap, .string to, .int .i64 ro, .bool mu, .bool fx, .string df, .string we]] w fun e w' => e = .returned (.bool (nameB nm && (bare3 L.length to ro we && sound3 le mo && (df.toList.isEmpty || fitsB 3 le mo L df)))) ∧ Below w.heap.size w w' := by
  have HL := hide hl
  have HV := hide hv
  have HW0 := hide s0
  have HW9 := hide s9
  have HW4 := hide s10
  obtain ⟨la, lcap, rfl⟩ := hl.form
  clear hl hv s0 s9 s10
  generalize hQ : (nameB nm && (bare3 L.length to ro we && sound3 le mo && (df.toList.isEmpty || fitsB 3 le mo L df))) = Q
  have HQ := hide hQ
  clear hQ
  have HW : ∀ o, Hid (Below w.heap.size w (w.alloc o)) := fun o => (Below.refl _ _).alloc (Nat.le_refl _) _
  go_enter Tryz.func56, Tryz.ntmps56
  go_wp2_with fail
  refine (nameOk_any _ _ HW0.out).mono ?_
  rintro e wx ⟨rfl, rfl⟩
  cases hnm : nameB nm with
  | false =>
    go_wp2
    go_ret
    exact ⟨ret_bool (by rw [← HQ.out, hnm]; rfl), (HW _).out⟩
  | true =>
    go_wp2_with fail
    refine (l1Bare3 nm to df we le mo ro mu fx a L.length cap _).mono ?_
    rintro e w1 ⟨rfl, hb1⟩
    have HC1 : Hid (Below (w.heap.size + 1) (w.alloc (.cells #[.string nm, .int .i64 3, .int .i64 le, .int .i64 mo, .slice a L.length cap, .string to, .int .i64 ro, .bool mu, .bool fx, .string df, .string we] 56)) w1) := by have := hb1; simp at this; exact this
    have HB1 : Hid (Below w.heap.size w w1) := (HW _).out.trans (hb1.mono (by simp))
    have hbx := fun i => box_cell w w1 #[.string nm, .int .i64 3, .int .i64 le, .int .i64 mo, .slice a L.length cap, .string to, .int .i64 ro, .bool mu, .bool fx, .string df, .string we] 56 HC1.out i
    clear hb1
    cases hbr : bare3 L.length to ro we with
    | false =>
      go_wp2
      go_ret
      exact ⟨ret_bool (by rw [← HQ.out, hnm, hbr]; rfl), HB1.out⟩
    | true =>
      cases hd : df.toList.isEmpty with
      | true =>
        have hdf : (df.toList.isEmpty || fitsB 3 le mo L df) = true := by simp [hd]
        have HDF := hide hdf
        clear hdf
        by_cases h1 : 1 ≤ le
        · by_cases h2 : le ≤ mo
          · go_wp2
            go_ret
            exact ⟨ret_bool (by rw [← HQ.out, HDF.out, hnm, hbr]; simp [sound3, h1, h2]), HB1.out⟩
          · go_wp2
            go_ret
            exact ⟨ret_bool (by rw [← HQ.out, HDF.out, hnm, hbr]; rw [Bool.eq_iff_iff]; simp [sound3]; omega), HB1.out⟩
        · go_wp2
          go_ret
          exact ⟨ret_bool (by rw [← HQ.out, HDF.out, hnm, hbr]; rw [Bool.eq_iff_iff]; simp [sound3]; omega), HB1.out⟩
      | false =>
        go_wp2_with fail
        refine (specFits_any _ _ _ _ _ _ _ _ _ _ L _ _ _ (HV.out.below HB1.out) HW9.out).mono ?_
        rintro e w2 ⟨rfl, hb2⟩
        have HC2 : Hid (Below (w.heap.size + 1) (w.alloc (.cells #[.string nm, .int .i64 3, .int .i64 le, .int .i64 mo, .slice a L.length cap, .string to, .int .i64 ro, .bool mu, .bool fx, .string df, .string we] 56)) w2) := HC1.out.trans (hb2.mono (by have := HC1.out.size; simp at this; omega))
        have HB2 : Hid (Below w.heap.size w w2) := HB1.out.trans (hb2.mono HB1.out.size)
        have hbx2 := fun i => box_cell w w2 #[.string nm, .int .i64 3, .int .i64 le, .int .i64 mo, .slice a L.length cap, .string to, .int .i64 ro, .bool mu, .bool fx, .string df, .string we] 56 HC2.out i
        clear hb2 hbx
        cases hft : fitsB 3 le mo L df with
        | false =>
          go_wp2
          go_ret
          exact ⟨ret_bool (by rw [← HQ.out, hnm, hbr, hd, hft]; simp), HB2.out⟩
        | true =>
          have HDF : Hid ((df.toList.isEmpty || fitsB 3 le mo L df) = true) := by unfold Hid; simp [hft]
          by_cases h1 : 1 ≤ le
          · by_cases h2 : le ≤ mo
            · go_wp2
              go_ret
              exact ⟨ret_bool (by rw [← HQ.out, HDF.out, hnm, hbr]; simp [sound3, h1, h2]), HB2.out⟩
            · go_wp2
              go_ret
              exact ⟨ret_bool (by rw [← HQ.out, HDF.out, hnm, hbr]; rw [Bool.eq_iff_iff]; simp [sound3]; omega), HB2.out⟩
          · go_wp2
            go_ret
            exact ⟨ret_bool (by rw [← HQ.out, HDF.out, hnm, hbr]; rw [Bool.eq_iff_iff]; simp [sound3]; omega), HB2.out⟩

set_option maxHeartbeats 4000000 in
theorem specField4 (lo : Nat) (lv : Value) (Ss : List Sh) (hl : ShsAt lo w lv Ss) (hv : StrsAt w (.slice a L.length cap) L) (s0 : nm.size ≤ maxLen) (s9 : df.size ≤ maxLen) (s10 : we.size ≤ maxLen) :
    Calls Tryz.prog 56 #[lv, .agg #[.string nm, .int .i64 4, .int .i64 le, .int .i64 mo, .slice a L.length cap, .string to, .int .i64 ro, .bool mu, .bool fx, .string df, .string we]] w fun e w' => e = .returned (.bool (nameB nm && (bare4 le mo L.length we && sound4 Ss to ro mu df && (df.toList.isEmpty || fitsB 4 le mo L df)))) ∧ Below w.heap.size w w' := by
  have HL := hide hl
  have HV := hide hv
  have HW0 := hide s0
  have HW9 := hide s9
  have HW4 := hide s10
  obtain ⟨la, lcap, rfl⟩ := hl.form
  clear hl hv s0 s9 s10
  generalize hQ : (nameB nm && (bare4 le mo L.length we && sound4 Ss to ro mu df && (df.toList.isEmpty || fitsB 4 le mo L df))) = Q
  have HQ := hide hQ
  clear hQ
  have HW : ∀ o, Hid (Below w.heap.size w (w.alloc o)) := fun o => (Below.refl _ _).alloc (Nat.le_refl _) _
  go_enter Tryz.func56, Tryz.ntmps56
  go_wp2_with fail
  refine (nameOk_any _ _ HW0.out).mono ?_
  rintro e wx ⟨rfl, rfl⟩
  cases hnm : nameB nm with
  | false =>
    go_wp2
    go_ret
    exact ⟨ret_bool (by rw [← HQ.out, hnm]; rfl), (HW _).out⟩
  | true =>
    go_wp2_with fail
    refine (l1Bare4 nm to df we le mo ro mu fx a L.length cap _).mono ?_
    rintro e w1 ⟨rfl, hb1⟩
    have HC1 : Hid (Below (w.heap.size + 1) (w.alloc (.cells #[.string nm, .int .i64 4, .int .i64 le, .int .i64 mo, .slice a L.length cap, .string to, .int .i64 ro, .bool mu, .bool fx, .string df, .string we] 56)) w1) := by have := hb1; simp at this; exact this
    have HB1 : Hid (Below w.heap.size w w1) := (HW _).out.trans (hb1.mono (by simp))
    have hbx := fun i => box_cell w w1 #[.string nm, .int .i64 4, .int .i64 le, .int .i64 mo, .slice a L.length cap, .string to, .int .i64 ro, .bool mu, .bool fx, .string df, .string we] 56 HC1.out i
    clear hb1
    cases hbr : bare4 le mo L.length we with
    | false =>
      go_wp2
      go_ret
      exact ⟨ret_bool (by rw [← HQ.out, hnm, hbr]; rfl), HB1.out⟩
    | true =>
      cases hd : df.toList.isEmpty with
      | true =>
        have hdf : (df.toList.isEmpty || fitsB 4 le mo L df) = true := by simp [hd]
        have HDF := hide hdf
        clear hdf
        go_wp2_with fail
        refine (l1Shape_any lo _ Ss _ _ (HL.out.below HB1.out)).mono ?_
        rintro e wx ⟨rr, rfl, rfl, hrr⟩
        have HR := hide hrr
        clear hrr
        by_cases hr0 : 0 ≤ rr
        · have HK : Hid (hasK Ss to = true) := by unfold Hid; rw [← HR.out]; simpa using hr0
          go_wp2_with fail
          refine (in_any _ _ _ _).mono ?_
          rintro e wx ⟨rfl, rfl⟩
          cases hi : inB 1 3 ro with
          | false =>
            go_wp2
            go_ret
            exact ⟨ret_bool (by rw [← HQ.out, HDF.out, hnm, hbr, snd4, hi]; simp), HB1.out⟩
          | true =>
            cases h2 : (ro != 2) with
            | true =>
              go_wp2
              go_ret
              exact ⟨ret_bool (by rw [← HQ.out, HDF.out, hnm, hbr, snd4, HK.out, hi, hd, h2]; simp), HB1.out⟩
            | false =>
              go_wp2
              go_ret
              exact ⟨ret_bool (by rw [← HQ.out, HDF.out, hnm, hbr, snd4, HK.out, hi, hd, h2]; simp), HB1.out⟩
        · have HK : Hid (hasK Ss to = false) := by unfold Hid; rw [← HR.out]; simpa using hr0
          go_wp2
          go_ret
          exact ⟨ret_bool (by rw [← HQ.out, HDF.out, hnm, hbr, snd4, HK.out]; simp), HB1.out⟩
      | false =>
        go_wp2_with fail
        refine (specFits_any _ _ _ _ _ _ _ _ _ _ L _ _ _ (HV.out.below HB1.out) HW9.out).mono ?_
        rintro e w2 ⟨rfl, hb2⟩
        have HC2 : Hid (Below (w.heap.size + 1) (w.alloc (.cells #[.string nm, .int .i64 4, .int .i64 le, .int .i64 mo, .slice a L.length cap, .string to, .int .i64 ro, .bool mu, .bool fx, .string df, .string we] 56)) w2) := HC1.out.trans (hb2.mono (by have := HC1.out.size; simp at this; omega))
        have HB2 : Hid (Below w.heap.size w w2) := HB1.out.trans (hb2.mono HB1.out.size)
        have hbx2 := fun i => box_cell w w2 #[.string nm, .int .i64 4, .int .i64 le, .int .i64 mo, .slice a L.length cap, .string to, .int .i64 ro, .bool mu, .bool fx, .string df, .string we] 56 HC2.out i
        clear hb2 hbx
        cases hft : fitsB 4 le mo L df with
        | false =>
          go_wp2
          go_ret
          exact ⟨ret_bool (by rw [← HQ.out, hnm, hbr, hd, hft]; simp), HB2.out⟩
        | true =>
          have HDF : Hid ((df.toList.isEmpty || fitsB 4 le mo L df) = true) := by unfold Hid; simp [hft]
          go_wp2_with fail
          refine (l1Shape_any lo _ Ss _ _ (HL.out.below HB2.out)).mono ?_
          rintro e wx ⟨rr, rfl, rfl, hrr⟩
          have HR := hide hrr
          clear hrr
          by_cases hr0 : 0 ≤ rr
          · have HK : Hid (hasK Ss to = true) := by unfold Hid; rw [← HR.out]; simpa using hr0
            go_wp2_with fail
            refine (in_any _ _ _ _).mono ?_
            rintro e wx ⟨rfl, rfl⟩
            cases hi : inB 1 3 ro with
            | false =>
              go_wp2
              go_ret
              exact ⟨ret_bool (by rw [← HQ.out, HDF.out, hnm, hbr, snd4, hi]; simp), HB2.out⟩
            | true =>
              go_wp2
              go_ret
              exact ⟨ret_bool (by rw [← HQ.out, HDF.out, hnm, hbr, snd4, hd]; simp), HB2.out⟩
          · have HK : Hid (hasK Ss to = false) := by unfold Hid; rw [← HR.out]; simpa using hr0
            go_wp2
            go_ret
            exact ⟨ret_bool (by rw [← HQ.out, HDF.out, hnm, hbr, snd4, HK.out]; simp), HB2.out⟩

end
end Go.Proofs.YtjkkbkdpoebfaaaGreat
