import Derived.Test.YtckdcejbojhlcaaGreatDoorW9
import Derived.Deep.RegionWith
namespace Go.Proofs.YtckdcejbojhlcaaGreatDoor
open Go.RowKit Go.Deep
section
theorem makers_there (u : World) (o : Obj) : (u.alloc o).heap[u.heap.size]? = some o := (MapKept.heap_alloc u _).1

end
end Go.Proofs.YtckdcejbojhlcaaGreatDoor
