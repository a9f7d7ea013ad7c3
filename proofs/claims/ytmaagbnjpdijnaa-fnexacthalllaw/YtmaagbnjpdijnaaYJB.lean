import Derived.Test.YtmaagbnjpdijnaaYHX
import Derived.Test.YtmaagbnjpdijnaaYLA
import Derived.Test.YtmaagbnjpdijnaaYGG
import Derived.Test.YtmaagbnjpdijnaaYHY
import Derived.Test.YtmaagbnjpdijnaaYTA
import Derived.Test.YtmaagbnjpdijnaaYBOG
import Derived.RangeFuncNested
import Derived.Test.YtmaagbnjpdijnaaYEE
import Derived.Test.YtmaagbnjpdijnaaYNZ
import Derived.Test.YtmaagbnjpdijnaaYOPB
import Derived.Test.YtmaagbnjpdijnaaYDA
namespace Go.Proofs.Ytmaagbnjpdijnaa
open Go.RowKit Go.Deep Go.Shelf Go.Maps

attribute [local go_sem] Oper.semAt_some

section
variable (lo : Nat) (sk : ByteArray) (fv : Value) (Fs : List Fd) (kind nm team : ByteArray) (vv hv : Value) (en : Bool) (ver : Int) (V Ho : List ByteArray) (Os : List Ob) (w : World)

end
end Go.Proofs.Ytmaagbnjpdijnaa

namespace Go.Proofs.Ytmaagbnjpdijnaa
open Go.RowKit Go.Deep Go.Maps

abbrev Held3 (W0 : World) (b1 : Nat) (cs1 : Array Value) (b2 : Nat) (cs2 : Array Value) (b3 : Nat) (cs3 : Array Value) (W : World) : Prop :=
  (∀ i, W.cell? ⟨b1, i, none⟩ = cs1[i]?) ∧ (∀ i, W.cell? ⟨b2, i, none⟩ = cs2[i]?) ∧ (∀ i, W.cell? ⟨b3, i, none⟩ = cs3[i]?) ∧ Hid (Below W0.heap.size W0 W ∧ b1 < W0.heap.size ∧ b2 < W0.heap.size ∧ b3 < W0.heap.size)
theorem Held3.drew {W0 : World} {b1 b2 b3 : Nat} {cs1 cs2 cs3 : Array Value} (h1 : Box W0 b1 cs1) (h2 : Box W0 b2 cs2) (h3 : Box W0 b3 cs3) : Held3 W0 b1 cs1 b2 cs2 b3 cs3 W0.drew := ⟨h1.cell, h2.cell, h3.cell, (Below.refl _ _).drew, h1.lt, h2.lt, h3.lt⟩
theorem Held3.on {W0 W W' : World} {b1 b2 b3 : Nat} {cs1 cs2 cs3 : Array Value} (h : Held3 W0 b1 cs1 b2 cs2 b3 cs3 W) (hb : Below W.heap.size W W') : Held3 W0 b1 cs1 b2 cs2 b3 cs3 W' := by
  obtain ⟨h1, h2, h3, h4, h5, h6, h7⟩ := h
  have := h4.size
  exact ⟨fun i => (hb.cell (p := ⟨b1, i, none⟩) (by simp only []; omega)).trans (h1 i), fun i => (hb.cell (p := ⟨b2, i, none⟩) (by simp only []; omega)).trans (h2 i), fun i => (hb.cell (p := ⟨b3, i, none⟩) (by simp only []; omega)).trans (h3 i), h4.trans (hb.mono h4.size), h5, h6, h7⟩
section
variable (lo : Nat) (sv mv tv fv vv hv : Value) (Ss : List Sh) (Ms : List Md) (Ts : List Tm) (x : Sh) (o : Ob) (F : List ByteArray) (w : World)

end
end Go.Proofs.Ytmaagbnjpdijnaa

namespace Go.Proofs.Ytmaagbnjpdijnaa
open Go.RowKit Go.Deep Go.Maps

section
variable (lo : Nat) (sv mv tv ov gv lv pv : Value) (Ss : List Sh) (Ms : List Md) (Ts : List Tm) (B : Bk) (FF : Nat → List ByteArray) (w : World)

end
end Go.Proofs.Ytmaagbnjpdijnaa

namespace Go.Proofs.Ytmaagbnjpdijnaa
open Go.RowKit Go.Deep Go.Maps

section
variable (lo : Nat) (sv mv tv ov gv lv pv : Value) (Ss : List Sh) (Ms : List Md) (Ts : List Tm) (B : Bk) (FF : Nat → List ByteArray) (w : World)

end
end Go.Proofs.Ytmaagbnjpdijnaa

namespace Go.Proofs.Ytmaagbnjpdijnaa
open Go.RowKit Go.Deep Go.Maps

section
variable (lo : Nat) (sv mv tv ov gv lv pv : Value) (Ss : List Sh) (Ms : List Md) (Ts : List Tm) (B : Bk) (FF : Nat → List ByteArray) (w : World)

end
end Go.Proofs.Ytmaagbnjpdijnaa

