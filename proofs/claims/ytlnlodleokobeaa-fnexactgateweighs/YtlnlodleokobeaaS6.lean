import Derived.Test.YtlnlodleokobeaaS5
namespace Go.Proofs.Ytlnlodleokobeaa
open Go.RowKit Go.Deep

theorem cell_set_ne (w : World) (p q : Addr) (u : Value) (h : p ≠ q) : (w.setCell p u).cell? q = w.cell? q := by
  apply World.cell?_setCell_other; exact h
theorem cell_set_eq (w : World) (p : Addr) (u v : Value) (h : w.cell? p = some v) : (w.setCell p u).cell? p = some u := by
  apply World.cell?_setCell_same; exact h

def shOf (Ss : List Sh) (s : ByteArray) : Option Sh := Ss.find? fun x => x.kind.toList == s.toList
theorem shOf_some {Ss : List Sh} {s : ByteArray} {k : Nat} (hk : k < Ss.length) (h : (Ss[k].kind.toList == s.toList) = true) (hall : ∀ i (h : i < Ss.length), i < k → (Ss[i].kind.toList == s.toList) = false) : shOf Ss s = some Ss[k] := by
  unfold shOf
  rw [List.find?_eq_some_iff_getElem]
  exact ⟨h, k, hk, rfl, fun j hj => by simp [hall j (by omega) hj]⟩
theorem shOf_none {Ss : List Sh} {s : ByteArray} (hall : ∀ i (h : i < Ss.length), (Ss[i].kind.toList == s.toList) = false) : shOf Ss s = none := by
  unfold shOf
  rw [List.find?_eq_none]
  intro x hx
  obtain ⟨i, hi, rfl⟩ := List.getElem_of_mem hx
  simp [hall i hi]
/-- what gateShapeOf tells -/
def ShapeOf (lo : Nat) (Ss : List Sh) (s : ByteArray) (e : Ending) (w' : World) : Prop :=
  (∃ x fv, shOf Ss s = some x ∧ e = .returned (.tuple #[.agg #[.string x.kind, fv], .bool true]) ∧ FdsAt lo w' fv x.fields) ∨
  (shOf Ss s = none ∧ e = .returned (.tuple #[.agg #[.string ⟨#[]⟩, .slice none 0 0], .bool false]))

end Go.Proofs.Ytlnlodleokobeaa

