import Derived.Test.YtgnodlkdjpnmoaaC2
import Derived.Test.YtgnodlkdjpnmoaaS6
import Derived.Test.YtgnodlkdjpnmoaaK5
import Derived.Deep.AppendLies
import Derived.Deep.Upon
import Derived.Deep.RegionWith
import Derived.Deep.RegionHeld3
import Derived.Deep.DeepCutAuto
namespace Go.Proofs.Ytgnodlkdjpnmoaa
open Go.RowKit Go.Deep

end Go.Proofs.Ytgnodlkdjpnmoaa

namespace Go.Proofs.Ytgnodlkdjpnmoaa
open Go.RowKit Go.Deep

section
variable (kind nm team : ByteArray) (vv hv : Value) (en : Bool) (ver : Int) (V Ho : List ByteArray) (w : World)
end
end Go.Proofs.Ytgnodlkdjpnmoaa

namespace Go.Proofs.Ytgnodlkdjpnmoaa
open Go.RowKit Go.Deep

/-- what is not set gets the default -/
def fillV (V : List ByteArray) (Fs : List Fd) : List ByteArray := List.zipWith (fun v (f : Fd) => if v.toList.isEmpty = true then f.df else v) V Fs
theorem fillV_get {V : List ByteArray} {Fs : List Fd} {i : Nat} (hv : i < V.length) (hf : i < Fs.length) : (fillV V Fs)[i]? = some (if V[i].toList.isEmpty = true then Fs[i].df else V[i]) := by
  simp [fillV, List.getElem?_zipWith, hv, hf]

/-- the first k are filled -/
def FillTo (V : List ByteArray) (Fs : List Fd) (k : Nat) (L : List ByteArray) : Prop :=
  L.length = V.length ∧ (∀ i, i < k → L[i]? = (fillV V Fs)[i]?) ∧ ∀ i, k ≤ i → L[i]? = V[i]?
theorem FillTo.put {V : List ByteArray} {Fs : List Fd} {k : Nat} {L : List ByteArray} (h : FillTo V Fs k L) (hk : k < V.length) (hf : k < Fs.length) (he : V[k].toList.isEmpty = true) : FillTo V Fs (k + 1) (L.set k Fs[k].df) := by
  refine ⟨by rw [List.length_set]; exact h.1, fun i hi => ?_, fun i hi => ?_⟩
  · by_cases e : i = k
    · subst e; rw [fillV_get hk hf, List.getElem?_set_self (by rw [h.1]; exact hk)]; simp [he]
    · rw [List.getElem?_set_ne (by omega)]; exact h.2.1 i (by omega)
  · rw [List.getElem?_set_ne (by omega)]; exact h.2.2 i (by omega)
theorem StrsOwn.put {lo hi : Nat} {w : World} {b off cap n : Nat} {L : List ByteArray} (h : StrsOwn lo hi w (.slice (some ⟨b, off, none⟩) n cap) L) {k : Nat} (hk : k < L.length) {s : ByteArray} (hs : s.size ≤ maxLen) :
    StrsOwn lo hi (w.setCell ⟨b, off + k, none⟩ (.string s)) (.slice (some ⟨b, off, none⟩) n cap) (L.set k s) := by
  rcases h with ⟨a, cap', h, rfl⟩ | ⟨b', off', cap', h1, h2, h3, h4, h5, h6, h7, h8, h9⟩
  · simp at hk
  · injection h1 with e1 e2 e3
    injection e1 with e1
    injection e1 with q1 q2 q3
    subst q1 q2 e2 e3
    refine Or.inr ⟨b, off, cap, by rw [List.length_set], ?_, by rw [List.length_set]; exact h3, by simpa [World.setCell] using h4, fun i hi' => ?_, fun t ht => ?_, h7, h8, fun i => by rw [World.frozen?_setCell]; exact h9 i⟩
    · intro e; have := congrArg List.length e; rw [List.length_set] at this; simp at this; exact h2 this
    · have hi2 : i < L.length := by rw [List.length_set] at hi'; exact hi'
      by_cases e : i = k
      · subst e; rw [cell_set_eq _ _ _ _ (h5 i hi2)]; simp
      · rw [cell_set_ne0 _ _ _ _ _ (by omega), h5 i hi2, List.getElem_set_ne (by omega)]
    · rcases List.mem_or_eq_of_mem_set ht with ht | rfl
      · exact h6 t ht
      · exact hs
theorem new_cell (X : World) (cs : Array Value) (t : TypeId) (g i : Nat) (hg : X.heap.size = g) : (X.alloc (.cells cs t)).cell? ⟨g, i, none⟩ = cs[i]? := by subst hg; simp
theorem new_free (X : World) (cs : Array Value) (t : TypeId) (g i : Nat) (hg : X.heap.size = g) : (X.alloc (.cells cs t)).frozen? ⟨g, i, none⟩ = false := by subst hg; simp

section
variable (kd kind nm team : ByteArray) (vv hv fv : Value) (en : Bool) (ver : Int) (V Ho : List ByteArray) (Fs : List Fd) (w : World) (lo : Nat)
end
end Go.Proofs.Ytgnodlkdjpnmoaa

namespace Go.Proofs.Ytgnodlkdjpnmoaa
open Go.RowKit Go.Deep

theorem StrsAt.form' {w : World} {v : Value} {L : List ByteArray} (h : StrsAt w v L) : ∃ a cap, v = .slice a L.length cap := by
  rcases h with ⟨a, cap, h, rfl⟩ | ⟨b, off, cap, h, _⟩
  · exact ⟨a, cap, h⟩
  · exact ⟨_, cap, h⟩

section
variable (kind nm team : ByteArray) (vv hv sv : Value) (en : Bool) (ver : Int) (V Ho : List ByteArray) (Ss : List Sh) (w : World) (lo : Nat)
end
end Go.Proofs.Ytgnodlkdjpnmoaa

namespace Go.Proofs.Ytgnodlkdjpnmoaa
open Go.RowKit Go.Deep

section
variable (kind nm team : ByteArray) (vv hv sv : Value) (en : Bool) (ver : Int) (V Ho : List ByteArray) (Ss : List Sh) (w : World) (lo : Nat)

end
end Go.Proofs.Ytgnodlkdjpnmoaa

namespace Go.Proofs.Ytgnodlkdjpnmoaa
open Go.RowKit Go.Deep

section
variable (kind nm team : ByteArray) (vv hv sv : Value) (en : Bool) (ver : Int) (V Ho : List ByteArray) (Ss : List Sh) (w : World) (lo : Nat)
end
end Go.Proofs.Ytgnodlkdjpnmoaa

namespace Go.Proofs.Ytgnodlkdjpnmoaa
open Go.RowKit Go.Deep

section
variable (kind nm team : ByteArray) (vv hv sv : Value) (en : Bool) (ver : Int) (V Ho : List ByteArray) (Ss : List Sh) (w : World) (lo : Nat)
end
end Go.Proofs.Ytgnodlkdjpnmoaa

namespace Go.Proofs.Ytgnodlkdjpnmoaa
open Go.RowKit Go.Deep

/-- a variable of its own block: what its cells hold -/
structure Box (w : World) (β : Nat) (cs : Array Value) : Prop where
  lt : β < w.heap.size
  cell : ∀ i, w.cell? ⟨β, i, none⟩ = cs[i]?
  free : ∀ i, w.frozen? ⟨β, i, none⟩ = false

theorem Box.new (X : World) (cs : Array Value) (t : TypeId) (β : Nat) (h : X.heap.size = β) : Box (X.alloc (.cells cs t)) β cs := ⟨by subst h; simp, fun i => new_cell _ _ _ _ _ h, fun i => new_free _ _ _ _ _ h⟩
theorem Box.below {w w' : World} {β B : Nat} {cs : Array Value} (h : Box w β cs) (hb : Below B w w') (hB : β < B) : Box w' β cs :=
  ⟨Nat.lt_of_lt_of_le h.lt hb.size, fun i => by rw [hb.cell (p := ⟨β, i, none⟩) hB]; exact h.cell i, fun i => by rw [hb.frozen (p := ⟨β, i, none⟩) hB]; exact h.free i⟩
theorem Box.on {w w' : World} {β : Nat} {cs : Array Value} (h : Box w β cs) (hb : Below w.heap.size w w') : Box w' β cs := h.below hb h.lt
theorem Box.drew {w : World} {β : Nat} {cs : Array Value} (h : Box w β cs) : Box w.drew β cs := ⟨h.lt, h.cell, h.free⟩
/-- the cells of a block are as they were, and what was there ahead of the call -/
abbrev Held (w : World) (cs : Array Value) (W : World) : Prop := (∀ i, W.cell? ⟨w.heap.size, i, none⟩ = cs[i]?) ∧ w.heap.size < W.heap.size ∧ Hid (Below w.heap.size w W ∧ ∀ i, W.frozen? ⟨w.heap.size, i, none⟩ = false)
theorem Held.box {w W : World} {cs : Array Value} (h : Held w cs W) : Box W w.heap.size cs := ⟨h.2.1, h.1, h.2.2.out.2⟩
theorem Held.mk' {w W : World} {cs : Array Value} (h : Box W w.heap.size cs) (hb : Below w.heap.size w W) : Held w cs W := ⟨h.cell, h.lt, hb, h.free⟩
theorem Held.drew {w W : World} {cs : Array Value} (h : Box W w.heap.size cs) (hb : Below w.heap.size w W) : Held w cs W.drew := Held.mk' ⟨h.lt, h.cell, h.free⟩ hb.drew
theorem Held.on {w W W' : World} {cs : Array Value} (h : Held w cs W) (hb : Below W.heap.size W W') : Held w cs W' := Held.mk' (h.box.on hb) (h.2.2.out.1.trans (hb.mono h.2.2.out.1.size))
theorem Held.alloc {w W : World} {cs : Array Value} (h : Held w cs W) (o : Obj) : Held w cs (W.alloc o) := h.on ((Below.refl _ _).alloc (Nat.le_refl _) _)
theorem one_al (X : World) (o : Obj) : Below X.heap.size X (X.alloc o) := (Below.refl _ _).alloc (Nat.le_refl _) _
theorem bt {a b c : World} (h : Below a.heap.size a b) (k : Below b.heap.size b c) : Below a.heap.size a c := h.trans (k.mono h.size)
/-- two variables' cells are as they were, and what was there when the region began -/
abbrev Held2 (W0 : World) (b1 : Nat) (cs1 : Array Value) (b2 : Nat) (cs2 : Array Value) (W : World) : Prop :=
  (∀ i, W.cell? ⟨b1, i, none⟩ = cs1[i]?) ∧ (∀ i, W.cell? ⟨b2, i, none⟩ = cs2[i]?) ∧ Hid (Below W0.heap.size W0 W ∧ b1 < W0.heap.size ∧ b2 < W0.heap.size)
theorem Held2.drew {W0 : World} {b1 b2 : Nat} {cs1 cs2 : Array Value} (h1 : Box W0 b1 cs1) (h2 : Box W0 b2 cs2) : Held2 W0 b1 cs1 b2 cs2 W0.drew := ⟨h1.cell, h2.cell, (Below.refl _ _).drew, h1.lt, h2.lt⟩
theorem Held2.on {W0 W W' : World} {b1 b2 : Nat} {cs1 cs2 : Array Value} (h : Held2 W0 b1 cs1 b2 cs2 W) (hb : Below W.heap.size W W') : Held2 W0 b1 cs1 b2 cs2 W' := by
  obtain ⟨h1, h2, h3, h4, h5⟩ := h
  have := h3.size
  exact ⟨fun i => (hb.cell (p := ⟨b1, i, none⟩) (by simp only []; omega)).trans (h1 i), fun i => (hb.cell (p := ⟨b2, i, none⟩) (by simp only []; omega)).trans (h2 i), bt h3 hb, h4, h5⟩
end Go.Proofs.Ytgnodlkdjpnmoaa


