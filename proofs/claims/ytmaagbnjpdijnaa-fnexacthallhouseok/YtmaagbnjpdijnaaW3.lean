import Derived.Test.YtmaagbnjpdijnaaW2
namespace Go.Proofs.Ytmaagbnjpdijnaa
open Go.RowKit

theorem empty_yes {s : ByteArray} (h : s.size = 0) : s.toList.isEmpty = true := by
  rw [ByteArray.toList_eq, List.isEmpty_iff_length_eq_zero]; simpa using h
theorem empty_no {s : ByteArray} (h : 0 < s.size) : s.toList.isEmpty = false := by
  rw [ByteArray.toList_eq, List.isEmpty_eq_false_iff_exists_mem]
  exact ⟨s[0], by simp only [Array.mem_toList_iff]; exact Array.getElem_mem h⟩

def textByte (c : UInt8) : Bool := decide (33 ≤ c.toNat ∧ c.toNat ≤ 126)
def textB (lo hi : Int) (s : ByteArray) : Bool := decide (0 < s.size) && inB lo hi s.size && allB textByte s
end Go.Proofs.Ytmaagbnjpdijnaa

