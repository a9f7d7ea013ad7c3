import Derived.Test.YtmaagbnjpdijnaaYS11
import Derived.Test.YtmaagbnjpdijnaaYB1
import Derived.Test.YtmaagbnjpdijnaaYA1
namespace Go.Proofs.Ytmaagbnjpdijnaa
open Go.RowKit Go.Deep

theorem FdsAt.take {lo : Nat} {w : World} {b off cap k : Nat} {Fs : List Fd} (hk : k ≤ Fs.length) (hm : Fs.length ≤ maxLen) (hb : b < w.heap.size) (hlo : lo ≤ b) (hcap : Fs.length ≤ cap)
    (hc : ∀ i (h : i < Fs.length), FdSize Fs[i] ∧ ∃ wv, FdCells w b (off + i * 11) Fs[i] wv ∧ StrsIn lo w wv Fs[i].words) : FdsAt lo w (.slice (some ⟨b, off, none⟩) k cap) (Fs.take k) := by
  have hl : (Fs.take k).length = k := by rw [List.length_take]; omega
  by_cases h0 : k = 0
  · subst h0; exact Or.inl ⟨_, _, rfl, by simp⟩
  · refine Or.inr ⟨b, off, cap, by rw [hl], ?_, by omega, hb, hlo, by omega, fun i hi => ?_⟩
    · intro e; rw [e] at hl; simp at hl; omega
    · rw [List.getElem_take]
      exact hc i (by omega)

section
variable (nm to df we : ByteArray) (kd le mo ro : Int) (mu fx : Bool) (wv : Value) (w : World)

end

end Go.Proofs.Ytmaagbnjpdijnaa

