import Derived.Test.YtmaagbnjpdijnaaS7
namespace Go.Proofs.Ytmaagbnjpdijnaa
open Go.RowKit Go.Deep

def sound1 (le mo : Int) (we : ByteArray) : Bool := decide (0 ≤ le) && decide (le ≤ mo) && decide (mo ≤ 1000000) && emptyOrName we
def sound2 (n : Nat) (L : List ByteArray) : Bool := decide (1 ≤ (n : Int)) && decide ((n : Int) ≤ 6) && ascB L
def sound3 (le mo : Int) : Bool := decide (1 ≤ le) && decide (le ≤ mo) && decide (mo ≤ 40)
def role4 (ro : Int) (mu : Bool) : Bool := ro == 1 || ro == 3 || ro == 2 && !mu
def sound4 (Ss : List Sh) (to : ByteArray) (ro : Int) (mu : Bool) (df : ByteArray) : Bool := hasK Ss to && df.toList.isEmpty && role4 ro mu

section
variable (nm to df we : ByteArray) (le mo ro : Int) (mu fx : Bool) (a : Option Addr) (n cap : Nat) (w : World)

end
end Go.Proofs.Ytmaagbnjpdijnaa

