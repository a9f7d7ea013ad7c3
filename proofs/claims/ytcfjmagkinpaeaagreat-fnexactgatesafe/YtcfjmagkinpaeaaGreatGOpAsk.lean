import Derived.Test.YtcfjmagkinpaeaaGreatGOPB
import Derived.Test.YtcfjmagkinpaeaaGreatGAK
open Go.Proofs.Tryz
namespace Go.Proofs.YtcfjmagkinpaeaaGreat
open Go.ChangeShapes Go.WideShapes Go.ChangeAt Go.RowKit Go.Deep
theorem Tryz.cells239:prog.cellsOf 239=15:=by kernel_rfl
end Go.Proofs.YtcfjmagkinpaeaaGreat
