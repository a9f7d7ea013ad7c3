import Derived.Test.YtmaagbnjpdijnaaW6
namespace Go.Proofs.Ytmaagbnjpdijnaa
open Go.RowKit Go.Deep

section
variable (kind nm team : ByteArray) (vv hv : Value) (en : Bool) (ver : Int) (V Ho : List ByteArray) (w : World)

def SzObj (V Ho : List ByteArray) (left r : Int) : Prop := -1 ≤ r ∧ r ≤ left ∧ (0 ≤ r → (V.length : Int) ≤ left ∧ (Ho.length : Int) ≤ left)

set_option maxHeartbeats 1000000 in
theorem eqObj_same (vv' hv' : Value) (hV : StrsAt w vv V) (hH : StrsAt w hv Ho) (hV' : StrsAt w vv' V) (hH' : StrsAt w hv' Ho) :
    Calls Try.prog 114 #[.agg #[.string kind, .string nm, .string team, vv, .bool en, hv, .int .i64 ver], .agg #[.string kind, .string nm, .string team, vv', .bool en, hv', .int .i64 ver]] w
      fun e w' => e = .returned (.bool true) ∧ Below w.heap.size w w' := by
  have HV := hide hV
  have HH := hide hH
  have HV' := hide hV'
  have HH' := hide hH'
  obtain ⟨a, n, cap, rfl⟩ := hV.form
  obtain ⟨a1, n1, cap1, rfl⟩ := hH.form
  obtain ⟨a2, n2, cap2, rfl⟩ := hV'.form
  obtain ⟨a3, n3, cap3, rfl⟩ := hH'.form
  clear hV hH hV' hH'
  have HW : ∀ o o', Hid (Below w.heap.size w ((w.alloc o).alloc o')) := fun o o' => ((Below.refl _ _).alloc (Nat.le_refl _) _).alloc (by simp) _
  go_enter Try.func114, Try.ntmps114
  go_wp2_with fail
  refine (eqStrs_same _ _ V _ (HV.out.below (HW _ _).out) (HV'.out.below (HW _ _).out)).mono ?_
  rintro e w1 ⟨rfl, hb⟩
  have hz : w.heap.size + 1 < w1.heap.size := by have := hb.size; simp at this; omega
  have HB : Hid (Below w.heap.size w w1) := (HW _ _).out.trans (hb.mono (by simp; omega))
  obtain ⟨hc, hf⟩ := bcell hb
  clear hb
  go_wp2_with fail
  refine (eqStrs_same _ _ Ho _ (HH.out.below HB.out) (HH'.out.below HB.out)).mono ?_
  rintro e w2 ⟨rfl, hb2⟩
  have HB2 : Hid (Below w.heap.size w w2) := HB.out.trans (hb2.mono HB.out.size)
  have hz2 : w.heap.size < w1.heap.size := by omega
  obtain ⟨hc2, hf2⟩ := bcell hb2
  clear hb2
  go_wp2
  go_ret
  exact ⟨rfl, HB2.out⟩
end
end Go.Proofs.Ytmaagbnjpdijnaa

