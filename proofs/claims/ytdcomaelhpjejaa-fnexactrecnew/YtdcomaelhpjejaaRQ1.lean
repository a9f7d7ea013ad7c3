
import Derived.Test.YtdcomaelhpjejaaRQ0
namespace Go.Proofs.Ytdcomaelhpjejaa
open Go.RowKit Go.Deep

/-! spec.RecDiskOk -/
def dokB (D : Rd) (i : Nat) : Bool := match D.sl[i]? with
  | some x => !(decide (D.pr < x.ba) || (decide ((i : Int) < D.kn) && x.ba == 0))
  | none => true
def diskB (D : Rd) : Bool := inB 0 1000000 D.pr && (slotsB D.sl && (inB 0 (D.sl.length : Nat) D.kn && (List.range D.sl.length).all (dokB D)))
theorem dokB_at {D : Rd} {k : Nat} (h : k < D.sl.length) : dokB D k = !(decide (D.pr < D.sl[k].ba) || (decide ((k : Int) < D.kn) && D.sl[k].ba == 0)) := by
  unfold dokB
  rw [List.getElem?_eq_getElem h]

end Go.Proofs.Ytdcomaelhpjejaa
