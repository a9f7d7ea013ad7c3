import Derived.Test.YtmaagbnjpdijnaaYDA
import Derived.Test.YtmaagbnjpdijnaaYTA
import Derived.Test.YtmaagbnjpdijnaaYTD
import Derived.Deep.RegionHeld3
import Derived.Test.YtmaagbnjpdijnaaYBOG
namespace Go.Proofs.Ytmaagbnjpdijnaa
open Go.RowKit Go.Deep

def TmsFew (Ts : List Tm) : Prop := Ts.length ≤ 1048576
theorem TmsAt.set {lo : Nat} {w : World} {v : Value} {Ts : List Tm} (h : TmsAt lo w v Ts) {p : Addr} (hp : p.block < lo) (u : Value) : TmsAt lo (w.setCell p u) v Ts := h.setCell hp u
end Go.Proofs.Ytmaagbnjpdijnaa

