import Derived.Test.YtmaagbnjpdijnaaVLA
import Derived.Test.YtmaagbnjpdijnaaVTA
import Derived.Test.YtmaagbnjpdijnaaVBOG
import Derived.RangeFuncNested
namespace Go.Proofs.Ytmaagbnjpdijnaa
open Go.RowKit Go.Deep Go.Maps

/-- a team, a resource, and how much -/
abbrev Tri := ByteArray × ByteArray × Int
/-- what stands at a key -/
def ksum (T : List Tri) (a b : ByteArray) : Int := (T.map fun p => if (p.1 = a ∧ p.2.1 = b) then p.2.2 else 0).sum
/-- a map that has the sums of a list -/
structure SumOk {H : Type} (T : List Tri) (D : DataW H) : Prop where
  isMap : IsMap D
  sums : ∀ a b : ByteArray, a.size ≤ maxLen → b.size ≤ maxLen → D.atKey (accL a b) (.lit (.int .i64 0)) = .lit (.int .i64 (wrap64 (ksum T a b)))
  has : ∀ p ∈ T, Maps.has D (accL p.1 p.2.1) = true
theorem SumOk.start {H : Type} : SumOk [] (.map [] : DataW H) := ⟨⟨[], rfl⟩, fun a b _ _ => by simp [ksum, wrap64]; rfl, fun p hp => by cases hp⟩
end Go.Proofs.Ytmaagbnjpdijnaa

namespace Go.Proofs.Ytmaagbnjpdijnaa
open Go.RowKit Go.Deep Go.Shelf

end Go.Proofs.Ytmaagbnjpdijnaa

