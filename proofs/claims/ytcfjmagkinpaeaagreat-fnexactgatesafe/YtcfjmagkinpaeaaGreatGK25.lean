import Derived.Test.YtcfjmagkinpaeaaGreatGB1
import Derived.Test.YtcfjmagkinpaeaaGreatGCC
open Go.Proofs.Tryz
namespace Go.Proofs.YtcfjmagkinpaeaaGreat
open Go.RowKit Go.Deep
theorem Zd6 (w:World) (b o o':Nat) (u:Value) (h:o≠o'):(w.setCell ⟨b,o,none⟩ u).cell? ⟨b,o',none⟩=w.cell? ⟨b,o',none⟩:=by
 rw [Zc1 _ _ _ _ (by simp only [ne_eq,Addr.mk.injEq,not_and];intro _ e;exact absurd e h)]
end Go.Proofs.YtcfjmagkinpaeaaGreat
