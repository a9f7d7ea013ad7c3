
import Derived.Test.YtdcomaelhpjejaaRQ1
import Derived.Test.YtdcomaelhpjejaaIA
namespace Go.Proofs.Ytdcomaelhpjejaa
open Go.RowKit Go.Deep

/-! impl.recSlotOk, impl.recSlotsOk, impl.recBallotsWithin -/
def balB (lo hi : Int) (L : List Rs) : Bool := L.all (fun x => inB lo hi x.ba)
end Go.Proofs.Ytdcomaelhpjejaa
