import Derived.Test.YtmaagbnjpdijnaaW1
import Derived.Deep.OwnRows
import Derived.Deep.RegionWith
import Derived.Test.YtmaagbnjpdijnaaP1
namespace Go.Proofs.Ytmaagbnjpdijnaa
open Go.RowKit Go.Deep

theorem ret_str {a b : ByteArray} (h : a = b) : Ending.returned (.string a) = .returned (.string b) := by rw [h]
theorem empty_is {x : ByteArray} (h : x.toList.isEmpty = true) : x = ⟨#[]⟩ := by
  apply bytes_eq.1
  rw [beq_iff_eq, List.isEmpty_iff.1 h]
  rw [ByteArray.toList_eq]
theorem empty_nil : ((⟨#[]⟩ : ByteArray).toList.isEmpty) = true := empty_yes rfl
theorem range_is {n k : Nat} {p : Nat → Bool} (hk : k < n) (h : (List.range n).all p = true) : p k = true := by
  rw [List.all_eq_true] at h; exact h k (List.mem_range.2 hk)
end Go.Proofs.Ytmaagbnjpdijnaa

