import Derived.Test.YtmaagbnjpdijnaaVDA
import Derived.Test.YtmaagbnjpdijnaaVTB
import Derived.Test.YtmaagbnjpdijnaaVTE
import Derived.Test.YtmaagbnjpdijnaaVBOG
import Derived.Test.YtmaagbnjpdijnaaVTA
import Derived.Test.YtmaagbnjpdijnaaVA1
import Derived.Test.YtmaagbnjpdijnaaVTD
import Derived.Test.YtmaagbnjpdijnaaVB1
namespace Go.Proofs.Ytmaagbnjpdijnaa
open Go.RowKit Go.Deep

def TmsFew (Ts : List Tm) : Prop := Ts.length ≤ 1048576
theorem TmsAt.set {lo : Nat} {w : World} {v : Value} {Ts : List Tm} (h : TmsAt lo w v Ts) {p : Addr} (hp : p.block < lo) (u : Value) : TmsAt lo (w.setCell p u) v Ts := h.setCell hp u
/-- a first grant, at place i -/
def firstB (i : Nat) (g : Gr) : Bool := decide (g.nu = (i : Int) + 1) && nameB g.tw && g.gb.toList.isEmpty && ruleB g.ru
def firstI (gs : List Gr) (i : Nat) : Bool := match gs[i]? with
  | some g => firstB i g
  | none => true
theorem firstI_at {gs : List Gr} {i : Nat} (h : i < gs.length) : firstI gs i = firstB i gs[i] := by
  unfold firstI
  rw [List.getElem?_eq_getElem h]
def firstsB (gs : List Gr) : Bool := (List.range gs.length).all (firstI gs)
theorem firsts_no {gs : List Gr} {m : Nat} (hm : m < gs.length) (h : firstB m gs[m] = false) : firstsB gs = false := range_not hm ((firstI_at hm).trans h)
theorem firsts_yes {gs : List Gr} (h : ∀ j (h : j < gs.length), firstB j gs[j] = true) : firstsB gs = true := range_all fun i hi => (firstI_at hi).trans (h i hi)
end Go.Proofs.Ytmaagbnjpdijnaa

