import Derived.Test.YtmaagbnjpdijnaaYB1
import Derived.Test.YtmaagbnjpdijnaaYA1
namespace Go.Proofs.Ytmaagbnjpdijnaa
open Go.RowKit Go.Deep

def emptyOrName (s : ByteArray) : Bool := s.toList.isEmpty || nameB s

section
variable (nm to df we : ByteArray) (le mo ro : Int) (mu fx : Bool) (a : Option Addr) (n cap : Nat) (w : World)

/-- what a kind does not use is nothing -/
def bare1 (n : Nat) (to : ByteArray) (ro : Int) : Bool := ((n : Int) == 0) && to.toList.isEmpty && (ro == 0)
def bare2 (le mo : Int) (to : ByteArray) (ro : Int) (we : ByteArray) : Bool := (le == 0) && (mo == 0) && we.toList.isEmpty && to.toList.isEmpty && (ro == 0)
def bare3 (n : Nat) (to : ByteArray) (ro : Int) (we : ByteArray) : Bool := we.toList.isEmpty && ((n : Int) == 0) && to.toList.isEmpty && (ro == 0)
def bare4 (le mo : Int) (n : Nat) (we : ByteArray) : Bool := (le == 0) && (mo == 0) && we.toList.isEmpty && ((n : Int) == 0)

end
end Go.Proofs.Ytmaagbnjpdijnaa

namespace Go.Proofs.Ytmaagbnjpdijnaa
open Go.RowKit Go.Deep

def sound1 (le mo : Int) (we : ByteArray) : Bool := decide (0 ≤ le) && decide (le ≤ mo) && decide (mo ≤ 1000000) && emptyOrName we
def sound2 (n : Nat) (L : List ByteArray) : Bool := decide (1 ≤ (n : Int)) && decide ((n : Int) ≤ 6) && ascB L
def sound3 (le mo : Int) : Bool := decide (1 ≤ le) && decide (le ≤ mo) && decide (mo ≤ 40)
def role4 (ro : Int) (mu : Bool) : Bool := ro == 1 || ro == 3 || ro == 2 && !mu
def sound4 (Ss : List Sh) (to : ByteArray) (ro : Int) (mu : Bool) (df : ByteArray) : Bool := hasK Ss to && df.toList.isEmpty && role4 ro mu

section
variable (nm to df we : ByteArray) (le mo ro : Int) (mu fx : Bool) (a : Option Addr) (n cap : Nat) (w : World)

end
end Go.Proofs.Ytmaagbnjpdijnaa

