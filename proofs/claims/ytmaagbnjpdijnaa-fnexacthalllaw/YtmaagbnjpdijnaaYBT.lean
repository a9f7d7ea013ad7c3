import Derived.Test.YtmaagbnjpdijnaaYBW
import Derived.Test.YtmaagbnjpdijnaaYOXt
import Derived.Test.YtmaagbnjpdijnaaYBOG
import Derived.Test.YtmaagbnjpdijnaaYOWX
import Derived.Test.YtmaagbnjpdijnaaYM2
namespace Go.Proofs.Ytmaagbnjpdijnaa
open Go.RowKit Go.Deep

theorem ObsOwn.setLow {lo hi : Nat} {w : World} {v : Value} {Xl : List Ob} (h : ObsOwn lo hi w v Xl) {p : Addr} (hp : p.block < lo) (u : Value) : ObsOwn lo hi (w.setCell p u) v Xl := h.touch (Touch.setCell p.block (p.block + 1) w p u ⟨Nat.le_refl _, Nat.lt_succ_self _⟩) (Or.inr hp)
theorem GrsOwn.setLow {lo hi : Nat} {w : World} {v : Value} {Xl : List Gr} (h : GrsOwn lo hi w v Xl) {p : Addr} (hp : p.block < lo) (u : Value) : GrsOwn lo hi (w.setCell p u) v Xl := h.touch (Touch.setCell p.block (p.block + 1) w p u ⟨Nat.le_refl _, Nat.lt_succ_self _⟩) (Or.inr hp)
theorem LesOwn.setLow {lo hi : Nat} {w : World} {v : Value} {Xl : List Le} (h : LesOwn lo hi w v Xl) {p : Addr} (hp : p.block < lo) (u : Value) : LesOwn lo hi (w.setCell p u) v Xl := h.touch (Touch.setCell p.block (p.block + 1) w p u ⟨Nat.le_refl _, Nat.lt_succ_self _⟩) (Or.inr hp)
theorem PusOwn.setLow {lo hi : Nat} {w : World} {v : Value} {Xl : List Pu} (h : PusOwn lo hi w v Xl) {p : Addr} (hp : p.block < lo) (u : Value) : PusOwn lo hi (w.setCell p u) v Xl := h.touch (Touch.setCell p.block (p.block + 1) w p u ⟨Nat.le_refl _, Nat.lt_succ_self _⟩) (Or.inr hp)

section
variable (lo : Nat) (ov gv lv pv : Value) (B : Bk) (w : World)

end
end Go.Proofs.Ytmaagbnjpdijnaa

