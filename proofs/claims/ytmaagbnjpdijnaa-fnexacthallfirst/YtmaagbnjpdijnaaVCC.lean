import Derived.Test.YtmaagbnjpdijnaaVA2
import Derived.Test.YtmaagbnjpdijnaaVM2
import Derived.Laws.IdiomCopy
import Derived.Lib.LazyBuf
import Derived.Test.YtmaagbnjpdijnaaVA1
namespace Go.Proofs.Ytmaagbnjpdijnaa
open Go.RowKit Go.Deep

section
variable (kind nm team : ByteArray) (vv hv : Value) (en : Bool) (ver : Int) (V Ho : List ByteArray) (w : World)

set_option maxHeartbeats 1000000 in
theorem eqObj_same (vv' hv' : Value) (hV : StrsAt w vv V) (hH : StrsAt w hv Ho) (hV' : StrsAt w vv' V) (hH' : StrsAt w hv' Ho) :
    Calls Try.prog 114 #[.agg #[.string kind, .string nm, .string team, vv, .bool en, hv, .int .i64 ver], .agg #[.string kind, .string nm, .string team, vv', .bool en, hv', .int .i64 ver]] w
      fun e w' => e = .returned (.bool true) ∧ Below w.heap.size w w' := by
  have HV := hide hV
  have HH := hide hH
  have HV' := hide hV'
  have HH' := hide hH'
  obtain ⟨a, n, cap, rfl⟩ := hV.form
  obtain ⟨a1, n1, cap1, rfl⟩ := hH.form
  obtain ⟨a2, n2, cap2, rfl⟩ := hV'.form
  obtain ⟨a3, n3, cap3, rfl⟩ := hH'.form
  clear hV hH hV' hH'
  have HW : ∀ o o', Hid (Below w.heap.size w ((w.alloc o).alloc o')) := fun o o' => ((Below.refl _ _).alloc (Nat.le_refl _) _).alloc (by simp) _
  go_enter Try.func114, Try.ntmps114
  go_wp2_with fail
  refine (eqStrs_same _ _ V _ (HV.out.below (HW _ _).out) (HV'.out.below (HW _ _).out)).mono ?_
  rintro e w1 ⟨rfl, hb⟩
  have hz : w.heap.size + 1 < w1.heap.size := by have := hb.size; simp at this; omega
  have HB : Hid (Below w.heap.size w w1) := (HW _ _).out.trans (hb.mono (by simp; omega))
  obtain ⟨hc, hf⟩ := bcell hb
  clear hb
  go_wp2_with fail
  refine (eqStrs_same _ _ Ho _ (HH.out.below HB.out) (HH'.out.below HB.out)).mono ?_
  rintro e w2 ⟨rfl, hb2⟩
  have HB2 : Hid (Below w.heap.size w w2) := HB.out.trans (hb2.mono HB.out.size)
  have hz2 : w.heap.size < w1.heap.size := by omega
  obtain ⟨hc2, hf2⟩ := bcell hb2
  clear hb2
  go_wp2
  go_ret
  exact ⟨rfl, HB2.out⟩
end
end Go.Proofs.Ytmaagbnjpdijnaa

namespace Go.Proofs.Ytmaagbnjpdijnaa
open Go.RowKit Go.Deep

end Go.Proofs.Ytmaagbnjpdijnaa

namespace Go.Proofs.Ytmaagbnjpdijnaa
open Go.RowKit Go.Deep

theorem StrsOwn.form {lo hi : Nat} {w : World} {v : Value} {L : List ByteArray} (h : StrsOwn lo hi w v L) : ∃ a cap, v = .slice a L.length cap := by
  rcases h with ⟨a, cap, h, rfl⟩ | ⟨b, off, cap, h, _⟩
  · exact ⟨a, cap, h⟩
  · exact ⟨_, cap, h⟩
theorem StrsOwn.below {lo hi : Nat} {w w' : World} {v : Value} {L : List ByteArray} (h : StrsOwn lo hi w v L) (hb : Below w.heap.size w w') : StrsOwn lo hi w' v L := by
  rcases h with h | ⟨b, off, cap, h1, h2, h3, h4, h5, h6, h7, h8, h9⟩
  · exact Or.inl h
  · exact Or.inr ⟨b, off, cap, h1, h2, h3, Nat.lt_of_lt_of_le h4 hb.size, fun i hi' => by rw [hb.cell (p := ⟨b, _, none⟩) h4]; exact h5 i hi', h6, h7, h8, fun i => by rw [hb.frozen (p := ⟨b, _, none⟩) h4]; exact h9 i⟩
theorem StrsOwn.wide {lo hi lo' hi' : Nat} {w : World} {v : Value} {L : List ByteArray} (h : StrsOwn lo hi w v L) (h1 : lo' ≤ lo) (h2 : hi ≤ hi') : StrsOwn lo' hi' w v L := by
  rcases h with h | ⟨b, off, cap, q1, q2, q3, q4, q5, q6, q7, q8, q9⟩
  · exact Or.inl h
  · exact Or.inr ⟨b, off, cap, q1, q2, q3, q4, q5, q6, by omega, by omega, q9⟩
theorem StrsOwn.setCell {lo hi : Nat} {w : World} {v : Value} {L : List ByteArray} (h : StrsOwn lo hi w v L) {p : Addr} (hp : p.block < lo) (u : Value) : StrsOwn lo hi (w.setCell p u) v L := by
  rcases h with h | ⟨b, off, cap, h1, h2, h3, h4, h5, h6, h7, h8, h9⟩
  · exact Or.inl h
  · exact Or.inr ⟨b, off, cap, h1, h2, h3, by simpa [World.setCell] using h4, fun i hi' => by rw [cell_setCell_ne _ _ _ _ (by show b ≠ p.block; omega)]; exact h5 i hi', h6, h7, h8, fun i => by rw [World.frozen?_setCell]; exact h9 i⟩

section
variable (kind nm team : ByteArray) (vv hv : Value) (en : Bool) (ver : Int) (V Ho : List ByteArray) (w : World)

/-- what is in an object's two lists, of its own memory, apart -/
def ObjOwn (lo : Nat) (w : World) (v h : Value) (V Ho : List ByteArray) : Prop :=
  ∃ mid, lo ≤ mid ∧ mid ≤ w.heap.size ∧ StrsOwn lo mid w v V ∧ StrsOwn mid w.heap.size w h Ho

end
end Go.Proofs.Ytmaagbnjpdijnaa

