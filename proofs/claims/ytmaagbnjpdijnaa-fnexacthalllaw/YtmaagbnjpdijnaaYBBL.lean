import Derived.Test.YtmaagbnjpdijnaaYBOG
import Derived.Test.YtmaagbnjpdijnaaYLA
import Derived.Test.YtmaagbnjpdijnaaYNN
import Derived.Test.YtmaagbnjpdijnaaYTD
namespace Go.Proofs.Ytmaagbnjpdijnaa
open Go.RowKit Go.Deep

/-- a book -/
structure Bk where
  now : Int
  tick : Int
  given : Int
  os : List Ob
  gs : List Gr
  ls : List Le
  ps : List Pu
/-- a book in memory, all of it above lo -/
structure BookAt (lo : Nat) (w : World) (ov gv lv pv : Value) (B : Bk) : Prop where
  obs : ObsAt lo w ov B.os
  grs : GrsAt lo w gv B.gs
  les : LesAt lo w lv B.ls
  pus : PusAt lo w pv B.ps
theorem BookAt.below {lo : Nat} {w w' : World} {ov gv lv pv : Value} {B : Bk} (h : BookAt lo w ov gv lv pv B) (hb : Below w.heap.size w w') : BookAt lo w' ov gv lv pv B :=
  ⟨h.obs.below hb, h.grs.below hb, h.les.below hb, h.pus.below hb⟩
theorem BookAt.mono {lo lo' : Nat} {w : World} {ov gv lv pv : Value} {B : Bk} (h : BookAt lo w ov gv lv pv B) (hl : lo' ≤ lo) : BookAt lo' w ov gv lv pv B :=
  ⟨h.obs.mono hl, h.grs.mono hl, h.les.mono hl, h.pus.mono hl⟩
section
variable (lo : Nat) (ov gv lv pv : Value) (B : Bk) (w : World)

end
end Go.Proofs.Ytmaagbnjpdijnaa

namespace Go.Proofs.Ytmaagbnjpdijnaa
open Go.ChangeShapes Go.WideShapes Go.ChangeAt Go.RowKit Go.Deep

theorem Try.cells22 : Try.prog.cellsOf 22 = 1 := by kernel_rfl
section
variable {H : Type} {enc : TypeId × Value → H} {W : World}

end
end Go.Proofs.Ytmaagbnjpdijnaa

