import Derived.Test.YtlnlodleokobeaaBNA
import Derived.Test.YtlnlodleokobeaaBN2
import Derived.Test.YtlnlodleokobeaaBDA
import Derived.Test.YtlnlodleokobeaaBSA
import Derived.Test.YtlnlodleokobeaaBKA
import Derived.Test.YtlnlodleokobeaaBWB
import Derived.Test.YtlnlodleokobeaaBK1
import Derived.Test.YtlnlodleokobeaaBC2
import Derived.Test.YtlnlodleokobeaaBM2
namespace Go.Proofs.Ytlnlodleokobeaa
open Go.RowKit Go.Deep

theorem Filled.below {wr w1 : World} {B : Nat} {L : List ByteArray} {k : Nat} (h : Filled wr B L k) (hb : Below wr.heap.size wr w1) : Filled w1 B L k := World.rowIs.of_block h (hb.block B (World.rowIs.lt h))

end Go.Proofs.Ytlnlodleokobeaa

