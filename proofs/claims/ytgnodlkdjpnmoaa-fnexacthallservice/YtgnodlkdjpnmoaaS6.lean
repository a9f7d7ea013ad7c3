import Derived.Test.YtgnodlkdjpnmoaaS4
namespace Go.Proofs.Ytgnodlkdjpnmoaa
open Go.RowKit Go.Deep

theorem cell_set_ne (w : World) (p q : Addr) (u : Value) (h : p ≠ q) : (w.setCell p u).cell? q = w.cell? q := by
  apply World.cell?_setCell_other; exact h
theorem cell_set_eq (w : World) (p : Addr) (u v : Value) (h : w.cell? p = some v) : (w.setCell p u).cell? p = some u := by
  apply World.cell?_setCell_same; exact h

end Go.Proofs.Ytgnodlkdjpnmoaa

