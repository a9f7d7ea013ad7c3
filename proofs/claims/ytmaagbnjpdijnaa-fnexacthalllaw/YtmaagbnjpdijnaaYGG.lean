import Derived.Test.YtmaagbnjpdijnaaYLA
import Derived.Test.YtmaagbnjpdijnaaYTA
import Derived.Test.YtmaagbnjpdijnaaYBOG
import Derived.RangeFuncNested
import Derived.RangeFuncWrites
import Derived.Maps.OwnIn
import Derived.Deep.RegionHeld3
import Derived.Test.YtmaagbnjpdijnaaYDA
namespace Go.Proofs.Ytmaagbnjpdijnaa
open Go.RowKit Go.Deep Go.Shelf

attribute [local go_sem] Oper.semAt_some

end Go.Proofs.Ytmaagbnjpdijnaa

namespace Go.Proofs.Ytmaagbnjpdijnaa
open Go.RowKit Go.Deep Go.Shelf Go.Maps

attribute [local go_sem] Oper.semAt_some

theorem Box.of_block {w w' : World} {β : Nat} {cs : Array Value} (h : Box w β cs) (e : w'.heap[β]? = w.heap[β]?) : Box w' β cs :=
  ⟨by have := h.lt; rw [Array.getElem?_eq_getElem this] at e; exact (Array.getElem?_eq_some_iff.1 e).1, fun i => (World.cell?_of_block (a := ⟨β, i, none⟩) e).trans (h.cell i), fun i => (World.frozen?_of_block (a := ⟨β, i, none⟩) e).trans (h.free i)⟩

end Go.Proofs.Ytmaagbnjpdijnaa

namespace Go.Proofs.Ytmaagbnjpdijnaa
open Go.RowKit Go.Deep Go.Maps

end Go.Proofs.Ytmaagbnjpdijnaa

namespace Go.Proofs.Ytmaagbnjpdijnaa
open Go.RowKit Go.Deep Go.Maps

end Go.Proofs.Ytmaagbnjpdijnaa

