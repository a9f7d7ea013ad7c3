import Derived.Test.YtmaagbnjpdijnaaVA1
import Derived.WideMake
import Derived.Deep.RegionWith
namespace Go.Proofs.Ytmaagbnjpdijnaa
open Go.RowKit Go.Deep

theorem bcell {W w1 : World} (hb : Below W.heap.size W w1) : (∀ b o, b < W.heap.size → w1.cell? ⟨b, o, none⟩ = W.cell? ⟨b, o, none⟩) ∧ (∀ b o, b < W.heap.size → w1.frozen? ⟨b, o, none⟩ = W.frozen? ⟨b, o, none⟩) :=
  ⟨fun b o h => hb.cell (p := ⟨b, o, none⟩) h, fun b o h => hb.frozen (p := ⟨b, o, none⟩) h⟩

end Go.Proofs.Ytmaagbnjpdijnaa

namespace Go.Proofs.Ytmaagbnjpdijnaa
open Go.RowKit Go.Deep

/-- which values fit, by the field's kind -/
def fitsB (kd le mo : Int) (L : List ByteArray) (s : ByteArray) : Bool :=
  if kd = 1 then decB s && inB le mo (decV s) else if kd = 2 then decide (0 < s.size) && hasB L s else if kd = 3 then textB le mo s else if kd = 4 then nameB s else false

section
variable (nm to df we : ByteArray) (le mo ro : Int) (mu fx : Bool) (wv : Value) (L : List ByteArray) (s : ByteArray) (w : World)

end
end Go.Proofs.Ytmaagbnjpdijnaa

namespace Go.Proofs.Ytmaagbnjpdijnaa
open Go.RowKit Go.Deep

section
variable (nm to df we : ByteArray) (kd le mo ro : Int) (mu fx : Bool) (a : Option Addr) (n cap : Nat) (s : ByteArray) (w : World)

end
end Go.Proofs.Ytmaagbnjpdijnaa

namespace Go.Proofs.Ytmaagbnjpdijnaa
open Go.RowKit Go.Deep

section
variable (nm to df we : ByteArray) (le mo ro : Int) (mu fx : Bool) (wv : Value) (L : List ByteArray) (s : ByteArray) (w : World) (r : Nat)

end
end Go.Proofs.Ytmaagbnjpdijnaa

namespace Go.Proofs.Ytmaagbnjpdijnaa
open Go.RowKit Go.Deep
section
variable (nm to df we : ByteArray) (le mo ro : Int) (mu fx : Bool) (wv : Value) (L : List ByteArray) (s : ByteArray) (w : World) (r : Nat)
end
end Go.Proofs.Ytmaagbnjpdijnaa

