import Derived.Test.YtlnlodleokobeaaGreatW8
namespace Go.Proofs.YtlnlodleokobeaaGreat
open Go.RowKit Go.Deep

section
variable (nm to df we : ByteArray) (le mo ro : Int) (mu fx : Bool) (wv : Value) (L : List ByteArray) (s : ByteArray) (w : World) (r : Nat)

set_option maxHeartbeats 1000000 in
theorem fitsBy1 (hr : w.heap[r]? = some (.map makerEntries 4)) (hv : StrsAt w wv L) (hs : s.size ≤ maxLen) :
    Calls Tryz.prog 237 #[.map (some r), .agg #[.string nm, .int .i64 1, .int .i64 le, .int .i64 mo, wv, .string to, .int .i64 ro, .bool mu, .bool fx, .string df, .string we], .string s] w
      fun e w' => e = .returned (.bool (fitsB 1 le mo L s)) ∧ Below w.heap.size w w' := by
  have HV := hide hv
  have HS := hide hs
  obtain ⟨a, n, cap, rfl⟩ := hv.form
  have HW : ∀ o, Hid (Below w.heap.size w (w.alloc o)) := fun o => (Below.refl _ _).alloc (Nat.le_refl _) _
  have hlk := fun o => look_of (w.alloc o) r 1 _ (by rw [(HW o).out.block r (Array.getElem?_eq_some_iff.1 hr).1]; exact hr) find1
  clear hv hr hs
  rw [fits1]
  have hm : ∀ W : World, (method 427 282 (.agg #[.int .i64 le, .int .i64 mo, .string we]) "loop.example/wharfhall/impl.fits").run Tryz.prog W = .ok (276, .agg #[.int .i64 le, .int .i64 mo, .string we]) W := fun _ => by kernel_rfl
  go_enter Tryz.func237, Tryz.ntmps237
  go_wp2_with fail
  refine (new49 _ _ _ _ _ _ _ _ _ _ _ _ _ _).mono ?_
  rintro e w1 ⟨rfl, hb1⟩
  have HB1 : Hid (Below w.heap.size w w1) := (HW _).out.trans (hb1.mono (by simp))
  clear hb1
  go_wp2_with fail
  refine (numFits _ _ _ _ _ HS.out).mono ?_
  rintro e w2 ⟨rfl, hb2⟩
  have HB2 : Hid (Below w.heap.size w w2) := HB1.out.trans (hb2.mono HB1.out.size)
  clear hb2
  go_wp2
  go_ret
  exact ⟨rfl, HB2.out⟩

set_option maxHeartbeats 1000000 in
theorem fitsBy2 (hr : w.heap[r]? = some (.map makerEntries 4)) (hv : StrsAt w wv L) (hs : s.size ≤ maxLen) :
    Calls Tryz.prog 237 #[.map (some r), .agg #[.string nm, .int .i64 2, .int .i64 le, .int .i64 mo, wv, .string to, .int .i64 ro, .bool mu, .bool fx, .string df, .string we], .string s] w
      fun e w' => e = .returned (.bool (fitsB 2 le mo L s)) ∧ Below w.heap.size w w' := by
  have HV := hide hv
  have HS := hide hs
  obtain ⟨a, n, cap, rfl⟩ := hv.form
  have HW : ∀ o, Hid (Below w.heap.size w (w.alloc o)) := fun o => (Below.refl _ _).alloc (Nat.le_refl _) _
  have hlk := fun o => look_of (w.alloc o) r 2 _ (by rw [(HW o).out.block r (Array.getElem?_eq_some_iff.1 hr).1]; exact hr) find2
  clear hv hr hs
  rw [fits2]
  have hm : ∀ W : World, (method 427 284 (.agg #[.slice a n cap]) "loop.example/wharfhall/impl.fits").run Tryz.prog W = .ok (279, .agg #[.slice a n cap]) W := fun _ => by kernel_rfl
  go_enter Tryz.func237, Tryz.ntmps237
  go_wp2_with fail
  refine (new50 _ _ _ _ _ _ _ _ _ _ _ _ _ _).mono ?_
  rintro e w1 ⟨rfl, hb1⟩
  have HB1 : Hid (Below w.heap.size w w1) := (HW _).out.trans (hb1.mono (by simp))
  clear hb1
  go_wp2_with fail
  refine (wordFits _ _ _ _ _ L (HV.out.below HB1.out)).mono ?_
  rintro e w2 ⟨rfl, hb2⟩
  have HB2 : Hid (Below w.heap.size w w2) := HB1.out.trans (hb2.mono HB1.out.size)
  clear hb2
  go_wp2
  go_ret
  exact ⟨rfl, HB2.out⟩

set_option maxHeartbeats 1000000 in
theorem fitsBy3 (hr : w.heap[r]? = some (.map makerEntries 4)) (hv : StrsAt w wv L) (hs : s.size ≤ maxLen) :
    Calls Tryz.prog 237 #[.map (some r), .agg #[.string nm, .int .i64 3, .int .i64 le, .int .i64 mo, wv, .string to, .int .i64 ro, .bool mu, .bool fx, .string df, .string we], .string s] w
      fun e w' => e = .returned (.bool (fitsB 3 le mo L s)) ∧ Below w.heap.size w w' := by
  have HV := hide hv
  have HS := hide hs
  obtain ⟨a, n, cap, rfl⟩ := hv.form
  have HW : ∀ o, Hid (Below w.heap.size w (w.alloc o)) := fun o => (Below.refl _ _).alloc (Nat.le_refl _) _
  have hlk := fun o => look_of (w.alloc o) r 3 _ (by rw [(HW o).out.block r (Array.getElem?_eq_some_iff.1 hr).1]; exact hr) find3
  clear hv hr hs
  rw [fits3]
  have hm : ∀ W : World, (method 427 286 (.agg #[.int .i64 le, .int .i64 mo]) "loop.example/wharfhall/impl.fits").run Tryz.prog W = .ok (282, .agg #[.int .i64 le, .int .i64 mo]) W := fun _ => by kernel_rfl
  go_enter Tryz.func237, Tryz.ntmps237
  go_wp2_with fail
  refine (new51 _ _ _ _ _ _ _ _ _ _ _ _ _ _).mono ?_
  rintro e w1 ⟨rfl, hb1⟩
  have HB1 : Hid (Below w.heap.size w w1) := (HW _).out.trans (hb1.mono (by simp))
  clear hb1
  go_wp2_with fail
  refine (textFits_any _ _ _ _ HS.out).mono ?_
  rintro e w2 ⟨rfl, hb2⟩
  have HB2 : Hid (Below w.heap.size w w2) := HB1.out.trans (hb2.mono HB1.out.size)
  clear hb2
  go_wp2
  go_ret
  exact ⟨rfl, HB2.out⟩

set_option maxHeartbeats 1000000 in
theorem fitsBy4 (hr : w.heap[r]? = some (.map makerEntries 4)) (hv : StrsAt w wv L) (hs : s.size ≤ maxLen) :
    Calls Tryz.prog 237 #[.map (some r), .agg #[.string nm, .int .i64 4, .int .i64 le, .int .i64 mo, wv, .string to, .int .i64 ro, .bool mu, .bool fx, .string df, .string we], .string s] w
      fun e w' => e = .returned (.bool (fitsB 4 le mo L s)) ∧ Below w.heap.size w w' := by
  have HV := hide hv
  have HS := hide hs
  obtain ⟨a, n, cap, rfl⟩ := hv.form
  have HW : ∀ o, Hid (Below w.heap.size w (w.alloc o)) := fun o => (Below.refl _ _).alloc (Nat.le_refl _) _
  have hlk := fun o => look_of (w.alloc o) r 4 _ (by rw [(HW o).out.block r (Array.getElem?_eq_some_iff.1 hr).1]; exact hr) find4
  clear hv hr hs
  rw [fits4]
  have hm : ∀ W : World, (method 427 288 (.agg #[.string to, .int .i64 ro, .bool mu, .string df]) "loop.example/wharfhall/impl.fits").run Tryz.prog W = .ok (285, .agg #[.string to, .int .i64 ro, .bool mu, .string df]) W := fun _ => by kernel_rfl
  go_enter Tryz.func237, Tryz.ntmps237
  go_wp2_with fail
  refine (new52 _ _ _ _ _ _ _ _ _ _ _ _ _ _).mono ?_
  rintro e w1 ⟨rfl, hb1⟩
  have HB1 : Hid (Below w.heap.size w w1) := (HW _).out.trans (hb1.mono (by simp))
  clear hb1
  go_wp2_with fail
  refine (linkFits _ _ _ _ _ _ HS.out).mono ?_
  rintro e w2 ⟨rfl, hb2⟩
  have HB2 : Hid (Below w.heap.size w w2) := HB1.out.trans (hb2.mono HB1.out.size)
  clear hb2
  go_wp2
  go_ret
  exact ⟨rfl, HB2.out⟩

set_option maxHeartbeats 1000000 in
theorem fitsBy0 (kd : Int) (hr : w.heap[r]? = some (.map makerEntries 4)) (hv : StrsAt w wv L) (h1 : kd ≠ 1) (h2 : kd ≠ 2) (h3 : kd ≠ 3) (h4 : kd ≠ 4) :
    Calls Tryz.prog 237 #[.map (some r), .agg #[.string nm, .int .i64 kd, .int .i64 le, .int .i64 mo, wv, .string to, .int .i64 ro, .bool mu, .bool fx, .string df, .string we], .string s] w
      fun e w' => e = .returned (.bool (fitsB kd le mo L s)) ∧ Below w.heap.size w w' := by
  obtain ⟨a, n, cap, rfl⟩ := hv.form
  have HW : ∀ o, Hid (Below w.heap.size w (w.alloc o)) := fun o => (Below.refl _ _).alloc (Nat.le_refl _) _
  have hlk : ∀ o, (Instr.lookup 195 (.map (some r)) (.int .i64 kd) true).run Tryz.prog (w.alloc o) = .ok (.tuple #[.nilFunc, .bool false]) (w.alloc o) :=
    fun o => look_of (w.alloc o) r kd _ (by rw [(HW o).out.block r (Array.getElem?_eq_some_iff.1 hr).1]; exact hr) (find0 h1 h2 h3 h4)
  rw [fits0 h1 h2 h3 h4]
  clear hv hr h1 h2 h3 h4
  go_enter Tryz.func237, Tryz.ntmps237
  go_wp2
  go_ret
  exact ⟨rfl, (HW _).out⟩

theorem fitsBy_any (kd : Int) (hr : w.heap[r]? = some (.map makerEntries 4)) (hv : StrsAt w wv L) (hs : s.size ≤ maxLen) :
    Calls Tryz.prog 237 #[.map (some r), .agg #[.string nm, .int .i64 kd, .int .i64 le, .int .i64 mo, wv, .string to, .int .i64 ro, .bool mu, .bool fx, .string df, .string we], .string s] w
      fun e w' => e = .returned (.bool (fitsB kd le mo L s)) ∧ Below w.heap.size w w' := by
  by_cases h1 : kd = 1
  · subst h1; exact fitsBy1 nm to df we le mo ro mu fx wv L s w r hr hv hs
  by_cases h2 : kd = 2
  · subst h2; exact fitsBy2 nm to df we le mo ro mu fx wv L s w r hr hv hs
  by_cases h3 : kd = 3
  · subst h3; exact fitsBy3 nm to df we le mo ro mu fx wv L s w r hr hv hs
  by_cases h4 : kd = 4
  · subst h4; exact fitsBy4 nm to df we le mo ro mu fx wv L s w r hr hv hs
  exact fitsBy0 nm to df we le mo ro mu fx wv L s w r kd hr hv h1 h2 h3 h4

theorem specFits_any (kd : Int) (hv : StrsAt w wv L) (hs : s.size ≤ maxLen) :
    Calls Tryz.prog 146 #[.agg #[.string nm, .int .i64 kd, .int .i64 le, .int .i64 mo, wv, .string to, .int .i64 ro, .bool mu, .bool fx, .string df, .string we], .string s] w
      fun e w' => e = .returned (.bool (fitsB kd le mo L s)) ∧ Below w.heap.size w w' := by
  by_cases h1 : kd = 1
  · subst h1; exact specFits1 nm to df we le mo ro mu fx wv L s w hv hs
  by_cases h2 : kd = 2
  · subst h2; exact specFits2 nm to df we le mo ro mu fx wv L s w hv hs
  by_cases h3 : kd = 3
  · subst h3; exact specFits3 nm to df we le mo ro mu fx wv L s w hv hs
  by_cases h4 : kd = 4
  · subst h4; exact specFits4 nm to df we le mo ro mu fx wv L s w hv hs
  exact specFits0 nm to df we le mo ro mu fx wv L s w kd hv h1 h2 h3 h4

end
end Go.Proofs.YtlnlodleokobeaaGreat

