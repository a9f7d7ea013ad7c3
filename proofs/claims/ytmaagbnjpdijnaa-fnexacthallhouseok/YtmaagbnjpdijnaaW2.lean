import Derived.Test.YtmaagbnjpdijnaaW1
namespace Go.Proofs.Ytmaagbnjpdijnaa
open Go.RowKit

def digit (c : UInt8) : Bool := decide (48 ≤ c.toNat ∧ c.toNat ≤ 57)
def valOf (l : List UInt8) : Int := l.foldl (fun n c => 10 * n + ((c.toNat : Int) - 48)) 0
/-- no needless zero ahead -/
def headOk (s : ByteArray) : Bool := !(decide (1 < s.size) && (s.data.toList.head? == some 48))
def decB (s : ByteArray) : Bool := inB 1 7 s.size && headOk s && allB digit s
def decV (s : ByteArray) : Int := valOf s.data.toList
end Go.Proofs.Ytmaagbnjpdijnaa

