import Derived.Test.YtmaagbnjpdijnaaVHX
import Derived.Test.YtmaagbnjpdijnaaVLA
import Derived.Test.YtmaagbnjpdijnaaVGG
import Derived.Test.YtmaagbnjpdijnaaVHY
import Derived.Test.YtmaagbnjpdijnaaVM5R
import Derived.Test.YtmaagbnjpdijnaaVBOG
namespace Go.Proofs.Ytmaagbnjpdijnaa
open Go.RowKit Go.Deep Go.Maps

/-- is it the object of a kind and a name? -/
def obIs (k n : ByteArray) (x : Ob) : Bool := x.kd.toList == k.toList && x.nm.toList == n.toList
section
variable (lo : Nat) (ov gv lv pv : Value) (B : Bk) (t r : ByteArray) (w : World)

end
end Go.Proofs.Ytmaagbnjpdijnaa

namespace Go.Proofs.Ytmaagbnjpdijnaa
open Go.RowKit Go.Deep Go.Maps

/-- a map that has the keys of objects -/
structure PlOk {H : Type} (Os : List Ob) (D : DataW H) : Prop where
  isMap : IsMap D
  has : ∀ a b : ByteArray, a.size ≤ maxLen → b.size ≤ maxLen → Maps.has D (accL a b) = Os.any (obIs a b)
theorem PlOk.start {H : Type} : PlOk [] (.map [] : DataW H) := ⟨⟨[], rfl⟩, fun _ _ _ _ => rfl⟩
end Go.Proofs.Ytmaagbnjpdijnaa

namespace Go.Proofs.Ytmaagbnjpdijnaa
open Go.RowKit Go.Deep Go.Maps

section
variable (lo : Nat) (sv mv tv ov gv lv pv : Value) (Ss : List Sh) (Ms : List Md) (Ts : List Tm) (B : Bk) (w : World)

end
end Go.Proofs.Ytmaagbnjpdijnaa

namespace Go.Proofs.Ytmaagbnjpdijnaa
open Go.RowKit Go.Deep Go.Shelf Go.Maps

attribute [local go_sem] Oper.semAt_some

section
variable (lo : Nat) (sk : ByteArray) (fv : Value) (Fs : List Fd) (kind nm team : ByteArray) (vv hv : Value) (en : Bool) (ver : Int) (V Ho : List ByteArray) (w : World)

end
end Go.Proofs.Ytmaagbnjpdijnaa

