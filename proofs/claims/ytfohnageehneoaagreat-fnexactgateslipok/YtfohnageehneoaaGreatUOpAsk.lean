import Derived.Test.YtfohnageehneoaaGreatUOpX
import Derived.Test.YtfohnageehneoaaGreatUOPB
import Derived.Test.YtfohnageehneoaaGreatUBBL
import Derived.Test.YtfohnageehneoaaGreatUAK
namespace Go.Proofs.YtfohnageehneoaaGreat
open Go.ChangeShapes Go.WideShapes Go.ChangeAt Go.RowKit Go.Deep
theorem Tryz.cells64 : Tryz.prog.cellsOf 64 = 15 := by kernel_rfl
end Go.Proofs.YtfohnageehneoaaGreat

