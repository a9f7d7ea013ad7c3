import Derived.Test.YtfohnageehneoaaGreatUA1
import Derived.Laws.IdiomStrings
import Derived.Laws.Concat
import Derived.Deep.RegionWith
import Derived.Test.YtfohnageehneoaaGreatUB1
import Derived.Laws.IdiomCopy
import Derived.Lib.LazyBuf
import Derived.Test.YtfohnageehneoaaGreatUA2
namespace Go.Proofs.YtfohnageehneoaaGreat
open Go.RowKit Go.Deep

theorem cell_set_ne0 (w : World) (b o o' : Nat) (u : Value) (h : o ≠ o') : (w.setCell ⟨b, o, none⟩ u).cell? ⟨b, o', none⟩ = w.cell? ⟨b, o', none⟩ := by
  rw [cell_set_ne _ _ _ _ (by simp only [ne_eq, Addr.mk.injEq, not_and]; intro _ e; exact absurd e h)]

end Go.Proofs.YtfohnageehneoaaGreat

namespace Go.Proofs.YtfohnageehneoaaGreat
open Go.RowKit Go.Deep

end Go.Proofs.YtfohnageehneoaaGreat

namespace Go.Proofs.YtfohnageehneoaaGreat
open Go.RowKit Go.Deep

end Go.Proofs.YtfohnageehneoaaGreat

namespace Go.Proofs.YtfohnageehneoaaGreat
open Go.RowKit Go.Deep

end Go.Proofs.YtfohnageehneoaaGreat

