import Derived.Test.YtmaagbnjpdijnaaYB1
import Derived.Test.YtmaagbnjpdijnaaYCC
import Derived.Test.YtmaagbnjpdijnaaYA2
import Derived.Deep.RegionWith
import Derived.Test.YtmaagbnjpdijnaaYDA
import Derived.Deep.RegionHeld3
namespace Go.Proofs.Ytmaagbnjpdijnaa
open Go.RowKit Go.Deep

section
variable (kd kind nm team : ByteArray) (vv hv fv : Value) (en : Bool) (ver : Int) (V Ho : List ByteArray) (Fs : List Fd) (w : World) (lo : Nat)

end
end Go.Proofs.Ytmaagbnjpdijnaa

namespace Go.Proofs.Ytmaagbnjpdijnaa
open Go.RowKit Go.Deep

theorem FdsAt.len {lo : Nat} {w : World} {v : Value} {Fs : List Fd} (h : FdsAt lo w v Fs) : Fs.length ≤ maxLen := by
  rcases h with ⟨_, _, _, rfl⟩ | ⟨_, _, _, _, _, h, _⟩
  · exact Nat.zero_le _
  · exact h
section
variable (kd kind nm team : ByteArray) (vv hv fv : Value) (en : Bool) (ver : Int) (V Ho : List ByteArray) (Fs : List Fd) (w : World) (lo : Nat)
end
end Go.Proofs.Ytmaagbnjpdijnaa

namespace Go.Proofs.Ytmaagbnjpdijnaa
open Go.RowKit Go.Deep

section
variable (kd kind nm team : ByteArray) (vv hv fv : Value) (en : Bool) (ver : Int) (V Ho : List ByteArray) (Fs : List Fd) (w : World) (lo : Nat)
end
end Go.Proofs.Ytmaagbnjpdijnaa

namespace Go.Proofs.Ytmaagbnjpdijnaa
open Go.RowKit Go.Deep

section
variable (kind nm team : ByteArray) (vv hv sv : Value) (en : Bool) (ver : Int) (V Ho : List ByteArray) (Ss : List Sh) (w : World) (lo : Nat)
end
end Go.Proofs.Ytmaagbnjpdijnaa

namespace Go.Proofs.Ytmaagbnjpdijnaa
open Go.RowKit Go.Deep

section
variable (kind nm team : ByteArray) (vv hv sv : Value) (en : Bool) (ver : Int) (V Ho : List ByteArray) (Ss : List Sh) (w : World) (lo : Nat)
end
end Go.Proofs.Ytmaagbnjpdijnaa

namespace Go.Proofs.Ytmaagbnjpdijnaa
open Go.RowKit Go.Deep

section
variable (kd k1 n1 t1 k2 n2 t2 : ByteArray) (vv hv uu gu fv : Value) (e1 e2 : Bool) (r1 r2 : Int) (V Ho U Hu : List ByteArray) (Fs : List Fd) (w : World) (lo : Nat)
end
end Go.Proofs.Ytmaagbnjpdijnaa

