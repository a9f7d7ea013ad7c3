import Derived.Test.YtmaagbnjpdijnaaW6
namespace Go.Proofs.Ytmaagbnjpdijnaa
open Go.RowKit Go.Deep

/-- which values fit, by the field's kind -/
def fitsB (kd le mo : Int) (L : List ByteArray) (s : ByteArray) : Bool :=
  if kd = 1 then decB s && inB le mo (decV s) else if kd = 2 then decide (0 < s.size) && hasB L s else if kd = 3 then textB le mo s else if kd = 4 then nameB s else false

section
variable (nm to df we : ByteArray) (le mo ro : Int) (mu fx : Bool) (wv : Value) (L : List ByteArray) (s : ByteArray) (w : World)

end
end Go.Proofs.Ytmaagbnjpdijnaa

