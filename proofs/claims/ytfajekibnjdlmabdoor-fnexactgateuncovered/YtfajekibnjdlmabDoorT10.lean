
import Derived.Test.YtfajekibnjdlmabDoorT9
namespace Go.Proofs.YtfajekibnjdlmabDoor
open Go.RowKit Go.Deep

end Go.Proofs.YtfajekibnjdlmabDoor
