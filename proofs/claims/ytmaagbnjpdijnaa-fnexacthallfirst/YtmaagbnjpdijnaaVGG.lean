import Derived.Test.YtmaagbnjpdijnaaVLA
import Derived.Test.YtmaagbnjpdijnaaVM5R
import Derived.RangeFuncWrites
import Derived.Maps.OwnIn
import Derived.Test.YtmaagbnjpdijnaaVTB
import Derived.Deep.RegionHeld3
import Derived.Test.YtmaagbnjpdijnaaVDA
namespace Go.Proofs.Ytmaagbnjpdijnaa
open Go.RowKit Go.Deep Go.Shelf

attribute [local go_sem] Oper.semAt_some

section
variable (lo : Nat) (sv : Value) (Ss : List Sh) (kind nm team : ByteArray) (vv hv : Value) (en : Bool) (ver : Int) (V Ho : List ByteArray) (w : World)

end
end Go.Proofs.Ytmaagbnjpdijnaa

namespace Go.Proofs.Ytmaagbnjpdijnaa
open Go.RowKit Go.Deep Go.Shelf Go.Maps

attribute [local go_sem] Oper.semAt_some

theorem Box.of_block {w w' : World} {β : Nat} {cs : Array Value} (h : Box w β cs) (e : w'.heap[β]? = w.heap[β]?) : Box w' β cs :=
  ⟨by have := h.lt; rw [Array.getElem?_eq_getElem this] at e; exact (Array.getElem?_eq_some_iff.1 e).1, fun i => (World.cell?_of_block (a := ⟨β, i, none⟩) e).trans (h.cell i), fun i => (World.frozen?_of_block (a := ⟨β, i, none⟩) e).trans (h.free i)⟩

section
variable (lo : Nat) (sv ov : Value) (Ss : List Sh) (Os : List Ob) (w : World)

end
end Go.Proofs.Ytmaagbnjpdijnaa

namespace Go.Proofs.Ytmaagbnjpdijnaa
open Go.RowKit Go.Deep Go.Maps

section
variable (lo : Nat) (tv : Value) (Ts : List Tm) (team r : ByteArray) (T : List Tri) (w : World)

end
end Go.Proofs.Ytmaagbnjpdijnaa

namespace Go.Proofs.Ytmaagbnjpdijnaa
open Go.RowKit Go.Deep Go.Maps

section
variable (lo : Nat) (sv mv tv ov gv lv pv : Value) (Ss : List Sh) (Ms : List Md) (Ts : List Tm) (Os : List Ob) (now tick given : Int) (team r : ByteArray) (w : World)

end
end Go.Proofs.Ytmaagbnjpdijnaa

