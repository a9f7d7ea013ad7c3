import Derived.Test.YtlnlodleokobeaaBN15
import Derived.Test.YtlnlodleokobeaaBDA
import Derived.Deep.RegionHeld3
import Derived.Test.YtlnlodleokobeaaBKA
import Derived.Test.YtlnlodleokobeaaBM2
import Derived.Test.YtlnlodleokobeaaBSA
import Derived.Test.YtlnlodleokobeaaBK1
import Derived.Test.YtlnlodleokobeaaBN2
import Derived.Test.YtlnlodleokobeaaBNA
import Derived.Test.YtlnlodleokobeaaBWB
import Derived.Test.YtlnlodleokobeaaBC2
import Derived.Test.YtlnlodleokobeaaBN12
import Derived.Test.YtlnlodleokobeaaBP1
namespace Go.Proofs.Ytlnlodleokobeaa
open Go.RowKit Go.Deep

section
variable (kind nm team : ByteArray) (vv hv sv mv fv : Value) (en : Bool) (ver : Int) (V Ho : List ByteArray) (Ss : List Sh) (Ms : List Md) (x : Sh) (k0 : ByteArray) (w : World) (lo lm : Nat)
end
end Go.Proofs.Ytlnlodleokobeaa

namespace Go.Proofs.Ytlnlodleokobeaa
open Go.RowKit Go.Deep

section
variable (kind nm team : ByteArray) (vv hv sv mv fv : Value) (en : Bool) (ver : Int) (V Ho : List ByteArray) (Ss : List Sh) (Ms : List Md) (x : Sh) (k0 : ByteArray) (w : World) (lo lm : Nat)
end
end Go.Proofs.Ytlnlodleokobeaa

namespace Go.Proofs.Ytlnlodleokobeaa
open Go.RowKit Go.Deep

end Go.Proofs.Ytlnlodleokobeaa

namespace Go.Proofs.Ytlnlodleokobeaa
open Go.RowKit Go.Deep

/-- what a round of mending reads is as it was -/
abbrev HeldM (wr : World) (β : Nat) (cs : Array Value) (rb ro : Nat) (s : ByteArray) (vb : Nat) (W : World) : Prop :=
  (∀ i, W.cell? ⟨β, i, none⟩ = cs[i]?) ∧ W.cell? ⟨rb, ro, none⟩ = some (.string s) ∧ Hid (Below vb wr W ∧ β < W.heap.size ∧ rb < W.heap.size ∧ vb ≠ β ∧ vb ≠ rb)
theorem HeldM.start {wr : World} {β : Nat} {cs : Array Value} {rb ro : Nat} {s : ByteArray} {vb : Nat} (h : Hid (Box wr β cs)) (h1 : Hid (wr.cell? ⟨rb, ro, none⟩ = some (.string s))) (hr : rb < wr.heap.size) (e1 : Hid (vb ≠ β)) (e2 : Hid (vb ≠ rb)) : HeldM wr β cs rb ro s vb wr.drew :=
  ⟨h.out.cell, h1.out, (Below.refl _ _).drew, h.out.lt, hr, e1.out, e2.out⟩
theorem HeldM.on {wr W W' : World} {β : Nat} {cs : Array Value} {rb ro : Nat} {s : ByteArray} {vb : Nat} (h : HeldM wr β cs rb ro s vb W) (hb : Below W.heap.size W W') (hv : vb ≤ W.heap.size) : HeldM wr β cs rb ro s vb W' := by
  obtain ⟨h1, h2, h5, h6, h7, h8, h9⟩ := h
  exact ⟨fun i => (hb.cell (p := ⟨β, i, none⟩) h6).trans (h1 i), (hb.cell (p := ⟨rb, ro, none⟩) h7).trans h2, h5.trans (hb.mono hv), Nat.lt_of_lt_of_le h6 hb.size, Nat.lt_of_lt_of_le h7 hb.size, h8, h9⟩
theorem HeldM.set {wr W : World} {β : Nat} {cs : Array Value} {rb ro : Nat} {s : ByteArray} {vb vo : Nat} (h : HeldM wr β cs rb ro s vb W) (u : Value) : HeldM wr β cs rb ro s vb (W.setCell ⟨vb, vo, none⟩ u) := by
  obtain ⟨h1, h2, h5, h6, h7, h8, h9⟩ := h
  exact ⟨fun i => (World.cell?_setCell_far _ _ _ _ h8).trans (h1 i), (World.cell?_setCell_far _ _ _ _ h9).trans h2, h5.setCell (Nat.le_refl _) _, by simpa [World.setCell] using h6, by simpa [World.setCell] using h7, h8, h9⟩

section
variable (kind nm team : ByteArray) (vv hv sv mv : Value) (en : Bool) (ver : Int) (V Ho : List ByteArray) (Ss : List Sh) (Ms : List Md) (w : World) (lo lm : Nat)
end
end Go.Proofs.Ytlnlodleokobeaa

namespace Go.Proofs.Ytlnlodleokobeaa
open Go.RowKit Go.Deep

section
variable (kind nm team : ByteArray) (vv hv sv mv : Value) (en : Bool) (ver : Int) (V Ho : List ByteArray) (Ss : List Sh) (Ms : List Md) (w : World) (lo lm : Nat)

end
end Go.Proofs.Ytlnlodleokobeaa

namespace Go.Proofs.Ytlnlodleokobeaa
open Go.RowKit Go.Deep

section
variable (kind nm team : ByteArray) (vv hv sv mv : Value) (en : Bool) (ver : Int) (V Ho : List ByteArray) (Ss : List Sh) (Ms : List Md) (F : List ByteArray) (w : World) (lo lm : Nat)
end
end Go.Proofs.Ytlnlodleokobeaa

namespace Go.Proofs.Ytlnlodleokobeaa
open Go.RowKit Go.Deep
theorem Held.mds {w W : World} {cs : Array Value} (h : Held w cs W) {lo : Nat} {v : Value} {Ms : List Md} (hs : MdsAt lo w v Ms) : MdsAt lo W v Ms := hs.below h.2.2.out.1
end Go.Proofs.Ytlnlodleokobeaa


