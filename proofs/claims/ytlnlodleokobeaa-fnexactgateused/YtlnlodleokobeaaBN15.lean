import Derived.Test.YtlnlodleokobeaaBN14
import Derived.Test.YtlnlodleokobeaaBP1
import Derived.Test.YtlnlodleokobeaaBNA
import Derived.Test.YtlnlodleokobeaaBWB
namespace Go.Proofs.Ytlnlodleokobeaa
open Go.RowKit Go.Deep

theorem MdsAt.sizes {lo : Nat} {w : World} {v : Value} {Ms : List Md} (h : MdsAt lo w v Ms) : ∀ m ∈ Ms, MdSize m := by
  intro m hm
  obtain ⟨i, hi, rfl⟩ := List.getElem_of_mem hm
  rcases h with ⟨_, _, _, h⟩ | ⟨b, off, cap, h1, h2, h3, h4, h5, h6, h7⟩
  · subst h; simp at hi
  · exact (h7 i hi).1
theorem StrsAt.sizes {w : World} {v : Value} {L : List ByteArray} (h : StrsAt w v L) : ∀ s ∈ L, s.size ≤ maxLen := by
  rcases h with ⟨_, _, _, h⟩ | ⟨b, off, cap, h1, h2, h3, h4, h5, h6⟩
  · subst h; intro s hs; simp at hs
  · exact h6
section
variable (kind nm team : ByteArray) (vv hv sv mv fv : Value) (en : Bool) (ver : Int) (V Ho : List ByteArray) (Ss : List Sh) (Ms : List Md) (x : Sh) (k0 : ByteArray) (w : World) (lo lm : Nat)
end
end Go.Proofs.Ytlnlodleokobeaa

