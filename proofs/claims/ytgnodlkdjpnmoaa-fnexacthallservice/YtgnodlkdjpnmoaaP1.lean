import Derived.Test.YtgnodlkdjpnmoaaS6
namespace Go.Proofs.Ytgnodlkdjpnmoaa

section
variable {α : Type} {N : List α} {rd : α → List α} {R R' : List α}
end

section
variable {α : Type} [DecidableEq α] {N : List α} {rd : α → List α} {R : List α}
end

section
variable {α β : Type} (pl : α → Nat) (dec : List β → α → Option β)
variable {pl dec} {N : List α} {rd : α → List α}
end
end Go.Proofs.Ytgnodlkdjpnmoaa
namespace Go.Proofs.Ytgnodlkdjpnmoaa
open Go.RowKit Go.Deep

/-- a mend -/
structure Md where
  kind : ByteArray
  field : ByteArray
  wh : ByteArray
  is : ByteArray
  put : ByteArray
  fr : ByteArray

end Go.Proofs.Ytgnodlkdjpnmoaa
namespace Go.Proofs.Ytgnodlkdjpnmoaa
open Go.RowKit Go.Deep

end Go.Proofs.Ytgnodlkdjpnmoaa

