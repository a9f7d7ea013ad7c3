import Derived.Test.YtmaagbnjpdijnaaYTA
import Derived.Sort.Walk0
import Derived.Deep.RegionHeld3
import Derived.Test.YtmaagbnjpdijnaaYDA
import Derived.Test.YtmaagbnjpdijnaaYBOG
import Derived.Test.YtmaagbnjpdijnaaYBBL
import Derived.Test.YtmaagbnjpdijnaaYGG
namespace Go.Proofs.Ytmaagbnjpdijnaa
open Go.RowKit Go.Deep

end Go.Proofs.Ytmaagbnjpdijnaa

namespace Go.Proofs.Ytmaagbnjpdijnaa
open Go.RowKit Go.Deep

end Go.Proofs.Ytmaagbnjpdijnaa

namespace Go.Proofs.Ytmaagbnjpdijnaa
open Go.RowKit Go.Deep

end Go.Proofs.Ytmaagbnjpdijnaa

namespace Go.Proofs.Ytmaagbnjpdijnaa
open Go.RowKit Go.Deep

section
variable (lo : Nat) (ov gv lv pv : Value) (B : Bk) (t r : ByteArray) (w : World)

end
end Go.Proofs.Ytmaagbnjpdijnaa

namespace Go.Proofs.Ytmaagbnjpdijnaa
open Go.RowKit Go.Deep

abbrev HeldLes (w : World) (b o : Nat) (x t : Le) (W : World) : Prop :=
  W.cell? ⟨b, o, none⟩ = some (.string x.tm) ∧ W.cell? ⟨b, o + 1, none⟩ = some (.string x.re) ∧ W.cell? ⟨b, o + 2, none⟩ = some (.int .i64 x.mo) ∧ W.cell? ⟨b, o + 3, none⟩ = some (.int .i64 x.fr) ∧ W.cell? ⟨w.heap.size, 0, none⟩ = some (.string t.tm) ∧ W.cell? ⟨w.heap.size, 1, none⟩ = some (.string t.re) ∧ W.cell? ⟨w.heap.size, 2, none⟩ = some (.int .i64 t.mo) ∧ W.cell? ⟨w.heap.size, 3, none⟩ = some (.int .i64 t.fr) ∧ Hid (Below w.heap.size w W ∧ b < W.heap.size ∧ w.heap.size < W.heap.size)
theorem HeldLes.on {w : World} {b o : Nat} {x t : Le} {W W' : World} (h : HeldLes w b o x t W) (hb : Below W.heap.size W W') : HeldLes w b o x t W' := by
  obtain ⟨y0, y1, y2, y3, y4, y5, y6, y7, hh⟩ := h
  have e1 : ∀ o, W'.cell? ⟨b, o, none⟩ = W.cell? ⟨b, o, none⟩ := fun o => hb.cell (p := ⟨b, o, none⟩) hh.out.2.1
  have e2 : ∀ o, W'.cell? ⟨w.heap.size, o, none⟩ = W.cell? ⟨w.heap.size, o, none⟩ := fun o => hb.cell (p := ⟨w.heap.size, o, none⟩) hh.out.2.2
  exact ⟨(e1 _).trans y0, (e1 _).trans y1, (e1 _).trans y2, (e1 _).trans y3, (e2 _).trans y4, (e2 _).trans y5, (e2 _).trans y6, (e2 _).trans y7, ⟨hh.out.1.trans (hb.mono hh.out.1.size), Nat.lt_of_lt_of_le hh.out.2.1 hb.size, Nat.lt_of_lt_of_le hh.out.2.2 hb.size⟩⟩

abbrev HeldPus (w : World) (b o : Nat) (x t : Pu) (W : World) : Prop :=
  W.cell? ⟨b, o, none⟩ = some (.string x.dr) ∧ W.cell? ⟨b, o + 1, none⟩ = some (.string x.tm) ∧ W.cell? ⟨b, o + 2, none⟩ = some (.string x.re) ∧ W.cell? ⟨b, o + 3, none⟩ = some (.int .i64 x.am) ∧ W.cell? ⟨b, o + 4, none⟩ = some (.int .i64 x.un) ∧ W.cell? ⟨w.heap.size, 0, none⟩ = some (.string t.dr) ∧ W.cell? ⟨w.heap.size, 1, none⟩ = some (.string t.tm) ∧ W.cell? ⟨w.heap.size, 2, none⟩ = some (.string t.re) ∧ W.cell? ⟨w.heap.size, 3, none⟩ = some (.int .i64 t.am) ∧ W.cell? ⟨w.heap.size, 4, none⟩ = some (.int .i64 t.un) ∧ Hid (Below w.heap.size w W ∧ b < W.heap.size ∧ w.heap.size < W.heap.size)
theorem HeldPus.on {w : World} {b o : Nat} {x t : Pu} {W W' : World} (h : HeldPus w b o x t W) (hb : Below W.heap.size W W') : HeldPus w b o x t W' := by
  obtain ⟨y0, y1, y2, y3, y4, y5, y6, y7, y8, y9, hh⟩ := h
  have e1 : ∀ o, W'.cell? ⟨b, o, none⟩ = W.cell? ⟨b, o, none⟩ := fun o => hb.cell (p := ⟨b, o, none⟩) hh.out.2.1
  have e2 : ∀ o, W'.cell? ⟨w.heap.size, o, none⟩ = W.cell? ⟨w.heap.size, o, none⟩ := fun o => hb.cell (p := ⟨w.heap.size, o, none⟩) hh.out.2.2
  exact ⟨(e1 _).trans y0, (e1 _).trans y1, (e1 _).trans y2, (e1 _).trans y3, (e1 _).trans y4, (e2 _).trans y5, (e2 _).trans y6, (e2 _).trans y7, (e2 _).trans y8, (e2 _).trans y9, ⟨hh.out.1.trans (hb.mono hh.out.1.size), Nat.lt_of_lt_of_le hh.out.2.1 hb.size, Nat.lt_of_lt_of_le hh.out.2.2 hb.size⟩⟩

end Go.Proofs.Ytmaagbnjpdijnaa

namespace Go.Proofs.Ytmaagbnjpdijnaa
open Go.RowKit Go.Deep

end Go.Proofs.Ytmaagbnjpdijnaa

