import Derived.Test.YtjkkbkdpoebfaaaGreatV08
namespace Go.Proofs.YtjkkbkdpoebfaaaGreat
open Go.RowKit Go.Deep

section
variable (nm to df we : ByteArray) (le mo ro : Int) (mu fx : Bool) (a : Option Addr) (L : List ByteArray) (cap : Nat) (w : World)

set_option maxHeartbeats 2000000 in
theorem implField1 (kd : Int) (lo : Nat) (lv : Value) (Ss : List Sh) (hl : ShsAt lo w lv Ss) (hv : StrsAt w (.slice a L.length cap) L) (s9 : df.size ≤ maxLen) (s10 : we.size ≤ maxLen) :
    Calls Tryz.prog 71 #[.iface 132 (.agg #[.int .i64 le, .int .i64 mo, .string we]), lv, .agg #[.string nm, .int .i64 kd, .int .i64 le, .int .i64 mo, .slice a L.length cap, .string to, .int .i64 ro, .bool mu, .bool fx, .string df, .string we]] w fun e w' => e = .returned (.bool (bare1 L.length to ro && sound1 le mo we && (df.toList.isEmpty || fitsB 1 le mo L df))) ∧ Below w.heap.size w w' := by
  have HL := hide hl
  have HV := hide hv
  have HW9 := hide s9
  have HW4 := hide s10
  obtain ⟨la, lcap, rfl⟩ := hl.form
  clear hl hv s9 s10
  have HW : ∀ o, Hid (Below w.heap.size w (w.alloc o)) := fun o => (Below.refl _ _).alloc (Nat.le_refl _) _
  have m1 : ∀ W : World, (method 271 132 (.agg #[.int .i64 le, .int .i64 mo, .string we]) "loop.example/wharfhall/impl.without").run Tryz.prog W = .ok (118, .agg #[.int .i64 le, .int .i64 mo, .string we]) W := fun _ => by kernel_rfl
  have m2 : ∀ W : World, (method 271 132 (.agg #[.int .i64 le, .int .i64 mo, .string we]) "loop.example/wharfhall/impl.sound").run Tryz.prog W = .ok (117, .agg #[.int .i64 le, .int .i64 mo, .string we]) W := fun _ => by kernel_rfl
  have m3 : ∀ W : World, (method 271 132 (.agg #[.int .i64 le, .int .i64 mo, .string we]) "loop.example/wharfhall/impl.fits").run Tryz.prog W = .ok (116, .agg #[.int .i64 le, .int .i64 mo, .string we]) W := fun _ => by kernel_rfl
  rw [fits1]
  go_enter Tryz.func71, Tryz.ntmps71
  go_wp2_with fail
  refine (without86 nm to df we le mo ro mu fx a L.length cap _ _).mono ?_
  rintro e w1 ⟨rfl, hb1⟩
  have HC1 : Hid (Below (w.heap.size + 1) (w.alloc (.cells #[.string nm, .int .i64 kd, .int .i64 le, .int .i64 mo, .slice a L.length cap, .string to, .int .i64 ro, .bool mu, .bool fx, .string df, .string we] 56)) w1) := by have := hb1; simp at this; exact this
  have HB1 : Hid (Below w.heap.size w w1) := (HW _).out.trans (hb1.mono (by simp))
  clear hb1
  go_wp2_with fail
  refine (unused_any nm to df ⟨#[]⟩ 0 0 ro mu fx a L.length cap _ _).mono ?_
  rintro e w2 ⟨rfl, hb2⟩
  have HC2 : Hid (Below (w.heap.size + 1) (w.alloc (.cells #[.string nm, .int .i64 kd, .int .i64 le, .int .i64 mo, .slice a L.length cap, .string to, .int .i64 ro, .bool mu, .bool fx, .string df, .string we] 56)) w2) := HC1.out.trans (hb2.mono (by have := HC1.out.size; simp at this; omega))
  have HB2 : Hid (Below w.heap.size w w2) := HB1.out.trans (hb2.mono HB1.out.size)
  clear hb2 HB1 HC1
  rw [un1]
  cases hbr : bare1 L.length to ro with
  | false =>
    go_wp2
    go_ret
    exact ⟨ret_bool (by simp [hbr]), HB2.out⟩
  | true =>
    go_wp2_with fail
    refine (sound85 we le mo _ _ HW4.out).mono ?_
    rintro e w3 ⟨rfl, hb3⟩
    have HC3 : Hid (Below (w.heap.size + 1) (w.alloc (.cells #[.string nm, .int .i64 kd, .int .i64 le, .int .i64 mo, .slice a L.length cap, .string to, .int .i64 ro, .bool mu, .bool fx, .string df, .string we] 56)) w3) := HC2.out.trans (hb3.mono (by have := HC2.out.size; simp at this; omega))
    have HB3 : Hid (Below w.heap.size w w3) := HB2.out.trans (hb3.mono HB2.out.size)
    clear hb3 HB2 HC2
    have hbx := fun i => box_cell w w3 #[.string nm, .int .i64 kd, .int .i64 le, .int .i64 mo, .slice a L.length cap, .string to, .int .i64 ro, .bool mu, .bool fx, .string df, .string we] 56 HC3.out i
    cases hso : sound1 le mo we with
    | false =>
      go_wp2
      go_ret
      exact ⟨ret_bool (by simp [hbr, hso]), HB3.out⟩
    | true =>
      cases hd : df.toList.isEmpty with
      | true =>
        go_wp2
        go_ret
        exact ⟨ret_bool (by simp [hbr, hso, hd]), HB3.out⟩
      | false =>
        go_wp2_with fail
        refine (numFits _ _ _ _ _ HW9.out).mono ?_
        rintro e w4 ⟨rfl, hb4⟩
        have HB4 : Hid (Below w.heap.size w w4) := HB3.out.trans (hb4.mono HB3.out.size)
        clear hb4
        go_wp2
        go_ret
        exact ⟨ret_bool (by simp [hbr, hso, hd]), HB4.out⟩

set_option maxHeartbeats 2000000 in
theorem implField2 (kd : Int) (lo : Nat) (lv : Value) (Ss : List Sh) (hl : ShsAt lo w lv Ss) (hv : StrsAt w (.slice a L.length cap) L) (s9 : df.size ≤ maxLen) (s10 : we.size ≤ maxLen) :
    Calls Tryz.prog 71 #[.iface 134 (.agg #[.slice a L.length cap]), lv, .agg #[.string nm, .int .i64 kd, .int .i64 le, .int .i64 mo, .slice a L.length cap, .string to, .int .i64 ro, .bool mu, .bool fx, .string df, .string we]] w fun e w' => e = .returned (.bool (bare2 le mo to ro we && sound2 L.length L && (df.toList.isEmpty || fitsB 2 le mo L df))) ∧ Below w.heap.size w w' := by
  have HL := hide hl
  have HV := hide hv
  have HW9 := hide s9
  have HW4 := hide s10
  obtain ⟨la, lcap, rfl⟩ := hl.form
  clear hl hv s9 s10
  have HW : ∀ o, Hid (Below w.heap.size w (w.alloc o)) := fun o => (Below.refl _ _).alloc (Nat.le_refl _) _
  have m1 : ∀ W : World, (method 271 134 (.agg #[.slice a L.length cap]) "loop.example/wharfhall/impl.without").run Tryz.prog W = .ok (123, .agg #[.slice a L.length cap]) W := fun _ => by kernel_rfl
  have m2 : ∀ W : World, (method 271 134 (.agg #[.slice a L.length cap]) "loop.example/wharfhall/impl.sound").run Tryz.prog W = .ok (122, .agg #[.slice a L.length cap]) W := fun _ => by kernel_rfl
  have m3 : ∀ W : World, (method 271 134 (.agg #[.slice a L.length cap]) "loop.example/wharfhall/impl.fits").run Tryz.prog W = .ok (121, .agg #[.slice a L.length cap]) W := fun _ => by kernel_rfl
  rw [fits2]
  go_enter Tryz.func71, Tryz.ntmps71
  go_wp2_with fail
  refine (without91 nm to df we le mo ro mu fx a L.length cap _ _).mono ?_
  rintro e w1 ⟨rfl, hb1⟩
  have HC1 : Hid (Below (w.heap.size + 1) (w.alloc (.cells #[.string nm, .int .i64 kd, .int .i64 le, .int .i64 mo, .slice a L.length cap, .string to, .int .i64 ro, .bool mu, .bool fx, .string df, .string we] 56)) w1) := by have := hb1; simp at this; exact this
  have HB1 : Hid (Below w.heap.size w w1) := (HW _).out.trans (hb1.mono (by simp))
  clear hb1
  go_wp2_with fail
  refine (unused_any nm to df we le mo ro mu fx none 0 0 _ _).mono ?_
  rintro e w2 ⟨rfl, hb2⟩
  have HC2 : Hid (Below (w.heap.size + 1) (w.alloc (.cells #[.string nm, .int .i64 kd, .int .i64 le, .int .i64 mo, .slice a L.length cap, .string to, .int .i64 ro, .bool mu, .bool fx, .string df, .string we] 56)) w2) := HC1.out.trans (hb2.mono (by have := HC1.out.size; simp at this; omega))
  have HB2 : Hid (Below w.heap.size w w2) := HB1.out.trans (hb2.mono HB1.out.size)
  clear hb2 HB1 HC1
  rw [un2]
  cases hbr : bare2 le mo to ro we with
  | false =>
    go_wp2
    go_ret
    exact ⟨ret_bool (by simp [hbr]), HB2.out⟩
  | true =>
    go_wp2_with fail
    refine (sound90 a cap _ _ L (HV.out.below HB2.out)).mono ?_
    rintro e w3 ⟨rfl, hb3⟩
    have HC3 : Hid (Below (w.heap.size + 1) (w.alloc (.cells #[.string nm, .int .i64 kd, .int .i64 le, .int .i64 mo, .slice a L.length cap, .string to, .int .i64 ro, .bool mu, .bool fx, .string df, .string we] 56)) w3) := HC2.out.trans (hb3.mono (by have := HC2.out.size; simp at this; omega))
    have HB3 : Hid (Below w.heap.size w w3) := HB2.out.trans (hb3.mono HB2.out.size)
    clear hb3 HB2 HC2
    have hbx := fun i => box_cell w w3 #[.string nm, .int .i64 kd, .int .i64 le, .int .i64 mo, .slice a L.length cap, .string to, .int .i64 ro, .bool mu, .bool fx, .string df, .string we] 56 HC3.out i
    cases hso : sound2 L.length L with
    | false =>
      go_wp2
      go_ret
      exact ⟨ret_bool (by simp [hbr, hso]), HB3.out⟩
    | true =>
      cases hd : df.toList.isEmpty with
      | true =>
        go_wp2
        go_ret
        exact ⟨ret_bool (by simp [hbr, hso, hd]), HB3.out⟩
      | false =>
        go_wp2_with fail
        refine (wordFits _ _ _ _ _ L (HV.out.below HB3.out)).mono ?_
        rintro e w4 ⟨rfl, hb4⟩
        have HB4 : Hid (Below w.heap.size w w4) := HB3.out.trans (hb4.mono HB3.out.size)
        clear hb4
        go_wp2
        go_ret
        exact ⟨ret_bool (by simp [hbr, hso, hd]), HB4.out⟩

set_option maxHeartbeats 2000000 in
theorem implField3 (kd : Int) (lo : Nat) (lv : Value) (Ss : List Sh) (hl : ShsAt lo w lv Ss) (hv : StrsAt w (.slice a L.length cap) L) (s9 : df.size ≤ maxLen) (s10 : we.size ≤ maxLen) :
    Calls Tryz.prog 71 #[.iface 136 (.agg #[.int .i64 le, .int .i64 mo]), lv, .agg #[.string nm, .int .i64 kd, .int .i64 le, .int .i64 mo, .slice a L.length cap, .string to, .int .i64 ro, .bool mu, .bool fx, .string df, .string we]] w fun e w' => e = .returned (.bool (bare3 L.length to ro we && sound3 le mo && (df.toList.isEmpty || fitsB 3 le mo L df))) ∧ Below w.heap.size w w' := by
  have HL := hide hl
  have HV := hide hv
  have HW9 := hide s9
  have HW4 := hide s10
  obtain ⟨la, lcap, rfl⟩ := hl.form
  clear hl hv s9 s10
  have HW : ∀ o, Hid (Below w.heap.size w (w.alloc o)) := fun o => (Below.refl _ _).alloc (Nat.le_refl _) _
  have m1 : ∀ W : World, (method 271 136 (.agg #[.int .i64 le, .int .i64 mo]) "loop.example/wharfhall/impl.without").run Tryz.prog W = .ok (127, .agg #[.int .i64 le, .int .i64 mo]) W := fun _ => by kernel_rfl
  have m2 : ∀ W : World, (method 271 136 (.agg #[.int .i64 le, .int .i64 mo]) "loop.example/wharfhall/impl.sound").run Tryz.prog W = .ok (126, .agg #[.int .i64 le, .int .i64 mo]) W := fun _ => by kernel_rfl
  have m3 : ∀ W : World, (method 271 136 (.agg #[.int .i64 le, .int .i64 mo]) "loop.example/wharfhall/impl.fits").run Tryz.prog W = .ok (125, .agg #[.int .i64 le, .int .i64 mo]) W := fun _ => by kernel_rfl
  rw [fits3]
  go_enter Tryz.func71, Tryz.ntmps71
  go_wp2_with fail
  refine (without97 nm to df we le mo ro mu fx a L.length cap _ _).mono ?_
  rintro e w1 ⟨rfl, hb1⟩
  have HC1 : Hid (Below (w.heap.size + 1) (w.alloc (.cells #[.string nm, .int .i64 kd, .int .i64 le, .int .i64 mo, .slice a L.length cap, .string to, .int .i64 ro, .bool mu, .bool fx, .string df, .string we] 56)) w1) := by have := hb1; simp at this; exact this
  have HB1 : Hid (Below w.heap.size w w1) := (HW _).out.trans (hb1.mono (by simp))
  clear hb1
  go_wp2_with fail
  refine (unused_any nm to df we 0 0 ro mu fx a L.length cap _ _).mono ?_
  rintro e w2 ⟨rfl, hb2⟩
  have HC2 : Hid (Below (w.heap.size + 1) (w.alloc (.cells #[.string nm, .int .i64 kd, .int .i64 le, .int .i64 mo, .slice a L.length cap, .string to, .int .i64 ro, .bool mu, .bool fx, .string df, .string we] 56)) w2) := HC1.out.trans (hb2.mono (by have := HC1.out.size; simp at this; omega))
  have HB2 : Hid (Below w.heap.size w w2) := HB1.out.trans (hb2.mono HB1.out.size)
  clear hb2 HB1 HC1
  rw [un3]
  cases hbr : bare3 L.length to ro we with
  | false =>
    go_wp2
    go_ret
    exact ⟨ret_bool (by simp [hbr]), HB2.out⟩
  | true =>
    go_wp2_with fail
    refine (sound96 le mo _ _).mono ?_
    rintro e w3 ⟨rfl, hb3⟩
    have HC3 : Hid (Below (w.heap.size + 1) (w.alloc (.cells #[.string nm, .int .i64 kd, .int .i64 le, .int .i64 mo, .slice a L.length cap, .string to, .int .i64 ro, .bool mu, .bool fx, .string df, .string we] 56)) w3) := HC2.out.trans (hb3.mono (by have := HC2.out.size; simp at this; omega))
    have HB3 : Hid (Below w.heap.size w w3) := HB2.out.trans (hb3.mono HB2.out.size)
    clear hb3 HB2 HC2
    have hbx := fun i => box_cell w w3 #[.string nm, .int .i64 kd, .int .i64 le, .int .i64 mo, .slice a L.length cap, .string to, .int .i64 ro, .bool mu, .bool fx, .string df, .string we] 56 HC3.out i
    cases hso : sound3 le mo with
    | false =>
      go_wp2
      go_ret
      exact ⟨ret_bool (by simp [hbr, hso]), HB3.out⟩
    | true =>
      cases hd : df.toList.isEmpty with
      | true =>
        go_wp2
        go_ret
        exact ⟨ret_bool (by simp [hbr, hso, hd]), HB3.out⟩
      | false =>
        go_wp2_with fail
        refine (textFits_any _ _ _ _ HW9.out).mono ?_
        rintro e w4 ⟨rfl, hb4⟩
        have HB4 : Hid (Below w.heap.size w w4) := HB3.out.trans (hb4.mono HB3.out.size)
        clear hb4
        go_wp2
        go_ret
        exact ⟨ret_bool (by simp [hbr, hso, hd]), HB4.out⟩

set_option maxHeartbeats 2000000 in
theorem implField4 (kd : Int) (lo : Nat) (lv : Value) (Ss : List Sh) (hl : ShsAt lo w lv Ss) (hv : StrsAt w (.slice a L.length cap) L) (s9 : df.size ≤ maxLen) (s10 : we.size ≤ maxLen) :
    Calls Tryz.prog 71 #[.iface 138 (.agg #[.string to, .int .i64 ro, .bool mu, .string df]), lv, .agg #[.string nm, .int .i64 kd, .int .i64 le, .int .i64 mo, .slice a L.length cap, .string to, .int .i64 ro, .bool mu, .bool fx, .string df, .string we]] w fun e w' => e = .returned (.bool (bare4 le mo L.length we && sound4 Ss to ro mu df && (df.toList.isEmpty || fitsB 4 le mo L df))) ∧ Below w.heap.size w w' := by
  have HL := hide hl
  have HV := hide hv
  have HW9 := hide s9
  have HW4 := hide s10
  obtain ⟨la, lcap, rfl⟩ := hl.form
  clear hl hv s9 s10
  have HW : ∀ o, Hid (Below w.heap.size w (w.alloc o)) := fun o => (Below.refl _ _).alloc (Nat.le_refl _) _
  have m1 : ∀ W : World, (method 271 138 (.agg #[.string to, .int .i64 ro, .bool mu, .string df]) "loop.example/wharfhall/impl.without").run Tryz.prog W = .ok (130, .agg #[.string to, .int .i64 ro, .bool mu, .string df]) W := fun _ => by kernel_rfl
  have m2 : ∀ W : World, (method 271 138 (.agg #[.string to, .int .i64 ro, .bool mu, .string df]) "loop.example/wharfhall/impl.sound").run Tryz.prog W = .ok (129, .agg #[.string to, .int .i64 ro, .bool mu, .string df]) W := fun _ => by kernel_rfl
  have m3 : ∀ W : World, (method 271 138 (.agg #[.string to, .int .i64 ro, .bool mu, .string df]) "loop.example/wharfhall/impl.fits").run Tryz.prog W = .ok (128, .agg #[.string to, .int .i64 ro, .bool mu, .string df]) W := fun _ => by kernel_rfl
  rw [fits4]
  go_enter Tryz.func71, Tryz.ntmps71
  go_wp2_with fail
  refine (without100 nm to df we le mo ro mu fx a L.length cap _ _).mono ?_
  rintro e w1 ⟨rfl, hb1⟩
  have HC1 : Hid (Below (w.heap.size + 1) (w.alloc (.cells #[.string nm, .int .i64 kd, .int .i64 le, .int .i64 mo, .slice a L.length cap, .string to, .int .i64 ro, .bool mu, .bool fx, .string df, .string we] 56)) w1) := by have := hb1; simp at this; exact this
  have HB1 : Hid (Below w.heap.size w w1) := (HW _).out.trans (hb1.mono (by simp))
  clear hb1
  go_wp2_with fail
  refine (unused_any nm ⟨#[]⟩ df we le mo 0 mu fx a L.length cap _ _).mono ?_
  rintro e w2 ⟨rfl, hb2⟩
  have HC2 : Hid (Below (w.heap.size + 1) (w.alloc (.cells #[.string nm, .int .i64 kd, .int .i64 le, .int .i64 mo, .slice a L.length cap, .string to, .int .i64 ro, .bool mu, .bool fx, .string df, .string we] 56)) w2) := HC1.out.trans (hb2.mono (by have := HC1.out.size; simp at this; omega))
  have HB2 : Hid (Below w.heap.size w w2) := HB1.out.trans (hb2.mono HB1.out.size)
  clear hb2 HB1 HC1
  rw [un4]
  cases hbr : bare4 le mo L.length we with
  | false =>
    go_wp2
    go_ret
    exact ⟨ret_bool (by simp [hbr]), HB2.out⟩
  | true =>
    go_wp2_with fail
    refine (sound99 to df ro mu _ lo _ Ss (HL.out.below HB2.out)).mono ?_
    rintro e w3 ⟨rfl, hb3⟩
    have HC3 : Hid (Below (w.heap.size + 1) (w.alloc (.cells #[.string nm, .int .i64 kd, .int .i64 le, .int .i64 mo, .slice a L.length cap, .string to, .int .i64 ro, .bool mu, .bool fx, .string df, .string we] 56)) w3) := HC2.out.trans (hb3.mono (by have := HC2.out.size; simp at this; omega))
    have HB3 : Hid (Below w.heap.size w w3) := HB2.out.trans (hb3.mono HB2.out.size)
    clear hb3 HB2 HC2
    have hbx := fun i => box_cell w w3 #[.string nm, .int .i64 kd, .int .i64 le, .int .i64 mo, .slice a L.length cap, .string to, .int .i64 ro, .bool mu, .bool fx, .string df, .string we] 56 HC3.out i
    cases hso : sound4 Ss to ro mu df with
    | false =>
      go_wp2
      go_ret
      exact ⟨ret_bool (by simp [hbr, hso]), HB3.out⟩
    | true =>
      cases hd : df.toList.isEmpty with
      | true =>
        go_wp2
        go_ret
        exact ⟨ret_bool (by simp [hbr, hso, hd]), HB3.out⟩
      | false =>
        go_wp2_with fail
        refine (linkFits _ _ _ _ _ _ HW9.out).mono ?_
        rintro e w4 ⟨rfl, hb4⟩
        have HB4 : Hid (Below w.heap.size w w4) := HB3.out.trans (hb4.mono HB3.out.size)
        clear hb4
        go_wp2
        go_ret
        exact ⟨ret_bool (by simp [hbr, hso, hd]), HB4.out⟩

end
end Go.Proofs.YtjkkbkdpoebfaaaGreat
