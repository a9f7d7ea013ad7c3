import Derived.Test.YtmaagbnjpdijnaaYHX
import Derived.Test.YtmaagbnjpdijnaaYTD
import Derived.Deep.RegionHeld3
import Derived.Test.YtmaagbnjpdijnaaYGG
namespace Go.Proofs.Ytmaagbnjpdijnaa
open Go.RowKit Go.Deep

section
variable (lo : Nat) (ov gv lv pv : Value) (B : Bk) (w : World)

end

section
variable (lo : Nat) (sv mv tv lv : Value) (Ss : List Sh) (Ms : List Md) (Ts : List Tm) (Ls : List Le) (w : World)

end
end Go.Proofs.Ytmaagbnjpdijnaa

namespace Go.Proofs.Ytmaagbnjpdijnaa
open Go.RowKit Go.Deep Go.Maps

section
variable (lo : Nat) (sv mv tv ov gv lv pv : Value) (Ss : List Sh) (Ms : List Md) (Ts : List Tm) (B : Bk) (w : World)

end
end Go.Proofs.Ytmaagbnjpdijnaa

namespace Go.Proofs.Ytmaagbnjpdijnaa
open Go.RowKit Go.Deep

/-- the worlds in which memory has only been added to -/
abbrev Up (W0 : World) : World → Prop := fun W => Below W0.heap.size W0 W
theorem Up.cell {W0 : World} (X : In (Up W0)) {p : Addr} {v : Value} (h : W0.cell? p = some v) : X.w.cell? p = some v :=
  (Below.cell (show Below W0.heap.size W0 X.w from X.h) (World.block_lt_of_cell? W0 _ h)).trans h
theorem Up.next {W0 : World} (X : In (Up W0)) {W' : World} (h : Below X.w.heap.size X.w W') : ∃ Y : In (Up W0), W' = Y.w :=
  ⟨⟨W', X.h.trans (h.mono X.h.size)⟩, rfl⟩
section
variable (lo : Nat) (ov gv lv pv : Value) (B : Bk) (w : World)

end
end Go.Proofs.Ytmaagbnjpdijnaa

