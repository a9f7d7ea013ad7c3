import Derived.Test.YtmaagbnjpdijnaaYNN
import Derived.Test.YtmaagbnjpdijnaaYS13
import Derived.Test.YtmaagbnjpdijnaaYDA
import Derived.Deep.RegionWith
import Derived.Test.YtmaagbnjpdijnaaYS11
import Derived.Test.YtmaagbnjpdijnaaYA1
namespace Go.Proofs.Ytmaagbnjpdijnaa
open Go.RowKit Go.Deep

section
variable (nm tt df we : ByteArray) (kd le mo ro : Int) (mu fx : Bool) (wv : Value) (w : World)
end

end Go.Proofs.Ytmaagbnjpdijnaa

namespace Go.Proofs.Ytmaagbnjpdijnaa
open Go.RowKit Go.Deep

end Go.Proofs.Ytmaagbnjpdijnaa

namespace Go.Proofs.Ytmaagbnjpdijnaa
open Go.RowKit Go.Deep

end Go.Proofs.Ytmaagbnjpdijnaa

namespace Go.Proofs.Ytmaagbnjpdijnaa
open Go.RowKit Go.Deep

theorem Filled.below {wr w1 : World} {B : Nat} {L : List ByteArray} {k : Nat} (h : Filled wr B L k) (hb : Below wr.heap.size wr w1) : Filled w1 B L k := World.rowIs.of_block h (hb.block B (World.rowIs.lt h))

end Go.Proofs.Ytmaagbnjpdijnaa

namespace Go.Proofs.Ytmaagbnjpdijnaa
open Go.RowKit Go.Deep

end Go.Proofs.Ytmaagbnjpdijnaa

