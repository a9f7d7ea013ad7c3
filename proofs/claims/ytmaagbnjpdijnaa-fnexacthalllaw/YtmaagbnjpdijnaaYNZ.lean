import Derived.Test.YtmaagbnjpdijnaaYN9
import Derived.WalkMore
import Derived.Test.YtmaagbnjpdijnaaYDA
import Derived.Deep.RegionHeld3
import Derived.Test.YtmaagbnjpdijnaaYK25
import Derived.Test.YtmaagbnjpdijnaaYA1
import Derived.Test.YtmaagbnjpdijnaaYNN
import Derived.Test.YtmaagbnjpdijnaaYM2
import Derived.Test.YtmaagbnjpdijnaaYP1
import Derived.Test.YtmaagbnjpdijnaaYB1
namespace Go.Proofs.Ytmaagbnjpdijnaa
open Go.RowKit Go.Deep

theorem StrsAt.full' {w : World} {a : Option Addr} {n cap : Nat} {L : List ByteArray} (h : StrsAt w (.slice a n cap) L) (hL : 0 < L.length) :
    ∃ b off, a = some ⟨b, off, none⟩ ∧ b < w.heap.size ∧ ∀ i (h : i < L.length), w.cell? ⟨b, off + i, none⟩ = some (.string L[i]) := by
  rcases h with ⟨a', cap', h, rfl⟩ | ⟨b', off', cap', h1, h2, h3, h4, h5, h6⟩
  · simp at hL
  · injection h1 with e1 e2 e3
    exact ⟨b', off', e1, h4, h5⟩

end Go.Proofs.Ytmaagbnjpdijnaa

namespace Go.Proofs.Ytmaagbnjpdijnaa
open Go.RowKit Go.Deep

theorem OwnS.touch {base lo hi : Nat} {W W' : World} {v : Value} {R : List ByteArray} (h : OwnS base W v R) (ht : Touch lo hi W W') (hh : hi ≤ base) : OwnS base W' v R := by
  refine ⟨⟨h.row.1, ?_⟩, h.sz⟩
  rcases h.row.2 with hv | ⟨g, cap, cur, hv, h1, h2, h3⟩
  · exact Or.inl hv
  · have hg : g < W.heap.size := by
      rcases Nat.lt_or_ge g W.heap.size with h | h
      · exact h
      · rw [Array.getElem?_eq_none h] at h2; cases h2
    exact Or.inr ⟨g, cap, cur, hv, h1, by rw [ht.block g hg (Or.inr (by omega))]; exact h2, h3⟩
section
variable (kind nm team : ByteArray) (vv hv sv mv fv : Value) (en : Bool) (ver : Int) (V Ho : List ByteArray) (Ss : List Sh) (Ms : List Md) (x : Sh) (k0 : ByteArray) (w : World) (lo lm : Nat)
end
end Go.Proofs.Ytmaagbnjpdijnaa

namespace Go.Proofs.Ytmaagbnjpdijnaa
open Go.RowKit Go.Deep

/-- WHAT SHAPING COMES TO -/
def ShapeTo (Ss : List Sh) (Ms : List Md) (kind : ByteArray) (V F : List ByteArray) : Prop :=
  (∃ x, mendsB Ss Ms = true ∧ shOf Ss kind = some x ∧ x.fields.length = V.length ∧ FixM x Ms (fillV V x.fields) F) ∨
  ((mendsB Ss Ms = false ∨ ∀ x, shOf Ss kind = some x → x.fields.length ≠ V.length) ∧ F = V)
section
variable (kind nm team : ByteArray) (vv hv sv mv fv : Value) (en : Bool) (ver : Int) (V Ho : List ByteArray) (Ss : List Sh) (Ms : List Md) (x : Sh) (k0 : ByteArray) (w : World) (lo lm : Nat)
end
end Go.Proofs.Ytmaagbnjpdijnaa

namespace Go.Proofs.Ytmaagbnjpdijnaa
open Go.RowKit Go.Deep

section
variable (kind nm team : ByteArray) (vv hv sv mv fv : Value) (en : Bool) (ver : Int) (V Ho : List ByteArray) (Ss : List Sh) (Ms : List Md) (x : Sh) (k0 : ByteArray) (w : World) (lo lm : Nat)
end
end Go.Proofs.Ytmaagbnjpdijnaa

namespace Go.Proofs.Ytmaagbnjpdijnaa
open Go.RowKit Go.Deep

end Go.Proofs.Ytmaagbnjpdijnaa

namespace Go.Proofs.Ytmaagbnjpdijnaa
open Go.RowKit Go.Deep

/-- what a round of mending reads is as it was -/
abbrev HeldM (wr : World) (β : Nat) (cs : Array Value) (rb ro : Nat) (s : ByteArray) (vb : Nat) (W : World) : Prop :=
  (∀ i, W.cell? ⟨β, i, none⟩ = cs[i]?) ∧ W.cell? ⟨rb, ro, none⟩ = some (.string s) ∧ Hid (Below vb wr W ∧ β < W.heap.size ∧ rb < W.heap.size ∧ vb ≠ β ∧ vb ≠ rb)
theorem HeldM.on {wr W W' : World} {β : Nat} {cs : Array Value} {rb ro : Nat} {s : ByteArray} {vb : Nat} (h : HeldM wr β cs rb ro s vb W) (hb : Below W.heap.size W W') (hv : vb ≤ W.heap.size) : HeldM wr β cs rb ro s vb W' := by
  obtain ⟨h1, h2, h5, h6, h7, h8, h9⟩ := h
  exact ⟨fun i => (hb.cell (p := ⟨β, i, none⟩) h6).trans (h1 i), (hb.cell (p := ⟨rb, ro, none⟩) h7).trans h2, h5.trans (hb.mono hv), Nat.lt_of_lt_of_le h6 hb.size, Nat.lt_of_lt_of_le h7 hb.size, h8, h9⟩
theorem HeldM.set {wr W : World} {β : Nat} {cs : Array Value} {rb ro : Nat} {s : ByteArray} {vb vo : Nat} (h : HeldM wr β cs rb ro s vb W) (u : Value) : HeldM wr β cs rb ro s vb (W.setCell ⟨vb, vo, none⟩ u) := by
  obtain ⟨h1, h2, h5, h6, h7, h8, h9⟩ := h
  exact ⟨fun i => (World.cell?_setCell_far _ _ _ _ h8).trans (h1 i), (World.cell?_setCell_far _ _ _ _ h9).trans h2, h5.setCell (Nat.le_refl _) _, by simpa [World.setCell] using h6, by simpa [World.setCell] using h7, h8, h9⟩

section
variable (kind nm team : ByteArray) (vv hv sv mv : Value) (en : Bool) (ver : Int) (V Ho : List ByteArray) (Ss : List Sh) (Ms : List Md) (w : World) (lo lm : Nat)
end
end Go.Proofs.Ytmaagbnjpdijnaa

namespace Go.Proofs.Ytmaagbnjpdijnaa
open Go.RowKit Go.Deep

section
variable (kind nm team : ByteArray) (vv hv sv mv : Value) (en : Bool) (ver : Int) (V Ho : List ByteArray) (Ss : List Sh) (Ms : List Md) (w : World) (lo lm : Nat)

end
end Go.Proofs.Ytmaagbnjpdijnaa

namespace Go.Proofs.Ytmaagbnjpdijnaa
open Go.RowKit Go.Deep

theorem MendTo.len {Ss : List Sh} {Ms : List Md} {kind : ByteArray} {V F : List ByteArray} (h : MendTo Ss Ms kind V F) : F.length = V.length := by
  rcases h with ⟨x, _, _, _, h⟩ | ⟨_, h⟩
  · exact h.len
  · rw [h]
theorem ShapeTo.len {Ss : List Sh} {Ms : List Md} {kind : ByteArray} {V F : List ByteArray} (h : ShapeTo Ss Ms kind V F) : F.length = V.length := by
  rcases h with ⟨x, _, _, h2, h⟩ | ⟨_, h⟩
  · rw [h.len, fillV_len h2]
  · rw [h]

section
variable (kind nm team : ByteArray) (vv hv sv mv : Value) (en : Bool) (ver : Int) (V Ho : List ByteArray) (Ss : List Sh) (Ms : List Md) (F : List ByteArray) (w : World) (lo lm : Nat)
end
end Go.Proofs.Ytmaagbnjpdijnaa

namespace Go.Proofs.Ytmaagbnjpdijnaa
open Go.RowKit Go.Deep
theorem Held.mds {w W : World} {cs : Array Value} (h : Held w cs W) {lo : Nat} {v : Value} {Ms : List Md} (hs : MdsAt lo w v Ms) : MdsAt lo W v Ms := hs.below h.2.2.out.1
end Go.Proofs.Ytmaagbnjpdijnaa


