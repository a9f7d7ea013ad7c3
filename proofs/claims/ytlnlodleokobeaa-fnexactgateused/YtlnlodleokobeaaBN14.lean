import Derived.Test.YtlnlodleokobeaaBNA
import Derived.Test.YtlnlodleokobeaaBDA
import Derived.Test.YtlnlodleokobeaaBSA
import Derived.Test.YtlnlodleokobeaaBS13
import Derived.Deep.RegionWith
import Derived.Test.YtlnlodleokobeaaBN12
import Derived.WalkMore
import Derived.Test.YtlnlodleokobeaaBWB
import Derived.Test.YtlnlodleokobeaaBM2
namespace Go.Proofs.Ytlnlodleokobeaa
open Go.RowKit Go.Deep

theorem StrsAt.full' {w : World} {a : Option Addr} {n cap : Nat} {L : List ByteArray} (h : StrsAt w (.slice a n cap) L) (hL : 0 < L.length) :
    ∃ b off, a = some ⟨b, off, none⟩ ∧ b < w.heap.size ∧ ∀ i (h : i < L.length), w.cell? ⟨b, off + i, none⟩ = some (.string L[i]) := by
  rcases h with ⟨a', cap', h, rfl⟩ | ⟨b', off', cap', h1, h2, h3, h4, h5, h6⟩
  · simp at hL
  · injection h1 with e1 e2 e3
    exact ⟨b', off', e1, h4, h5⟩

end Go.Proofs.Ytlnlodleokobeaa

