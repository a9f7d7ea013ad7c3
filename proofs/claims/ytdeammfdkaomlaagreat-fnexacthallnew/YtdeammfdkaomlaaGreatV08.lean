import Derived.Test.YtdeammfdkaomlaaGreatV05
import Derived.Test.YtdeammfdkaomlaaGreatV07
import Derived.Deep.AppendLies
import Derived.Deep.Upon
import Derived.Deep.RegionWith
import Derived.Deep.RegionHeld3
import Derived.Deep.DeepCutAuto
namespace Go.Proofs.YtdeammfdkaomlaaGreat
open Go.RowKit Go.Deep

end Go.Proofs.YtdeammfdkaomlaaGreat

namespace Go.Proofs.YtdeammfdkaomlaaGreat
open Go.RowKit Go.Deep

/-- AN append WHOSE RUN IS KNOWN -/
theorem wpList_append_run {P : Program} {w w' : World} {v v1 v2 : Value} {ops : Array Oper} {rest : List Oper} {o : Oper} {a : Act} {Q : Exit → Act → World → Prop} (hgd : o.guard = none) (s x : Operand) (t : TypeId)
    (ho : o.op = .call { callee := .builtin .append, args := #[s, x], argTypes := #[t, t] }) (hs : a.eval s = v1) (hx : a.eval x = v2) (hr : (Builtin.append_ #[t, t] o.type #[v1, v2]).run P w = .ok v w')
    (h : wpList P ops Q rest (a.put o.dst v) w') : wpList P ops Q (o :: rest) a w := by
  refine wpList_plain hgd fun K hK => ?_
  unfold Oper.wp execOp
  simp only [ho, resolve, invoke, builtin, Sem.run_bind, Sem.run_pure, Result.andThen_ok, List.map_toArray, List.map_cons, List.map_nil, hs, hx, hr]
  exact hK _ _ h

end Go.Proofs.YtdeammfdkaomlaaGreat

namespace Go.Proofs.YtdeammfdkaomlaaGreat
open Go.RowKit Go.Deep

/-- what is not set gets the default -/
def fillV (V : List ByteArray) (Fs : List Fd) : List ByteArray := List.zipWith (fun v (f : Fd) => if v.toList.isEmpty = true then f.df else v) V Fs
theorem fillV_len {V : List ByteArray} {Fs : List Fd} (h : Fs.length = V.length) : (fillV V Fs).length = V.length := by simp [fillV, h]
theorem fillV_get {V : List ByteArray} {Fs : List Fd} {i : Nat} (hv : i < V.length) (hf : i < Fs.length) : (fillV V Fs)[i]? = some (if V[i].toList.isEmpty = true then Fs[i].df else V[i]) := by
  simp [fillV, List.getElem?_zipWith, hv, hf]

/-- the first k are filled -/
def FillTo (V : List ByteArray) (Fs : List Fd) (k : Nat) (L : List ByteArray) : Prop :=
  L.length = V.length ∧ (∀ i, i < k → L[i]? = (fillV V Fs)[i]?) ∧ ∀ i, k ≤ i → L[i]? = V[i]?
theorem FillTo.zero (V : List ByteArray) (Fs : List Fd) : FillTo V Fs 0 V := ⟨rfl, fun i h => by omega, fun _ _ => rfl⟩
theorem FillTo.at {V : List ByteArray} {Fs : List Fd} {k : Nat} {L : List ByteArray} (h : FillTo V Fs k L) (hk : k < V.length) (hk' : k < L.length) : L[k] = V[k] := by
  have := h.2.2 k (Nat.le_refl _)
  rw [List.getElem?_eq_getElem hk', List.getElem?_eq_getElem hk] at this
  exact Option.some.inj this
theorem FillTo.same {V : List ByteArray} {Fs : List Fd} {k : Nat} {L : List ByteArray} (h : FillTo V Fs k L) (hk : k < V.length) (hf : k < Fs.length) (he : V[k].toList.isEmpty = false) : FillTo V Fs (k + 1) L := by
  refine ⟨h.1, fun i hi => ?_, fun i hi => h.2.2 i (by omega)⟩
  by_cases e : i = k
  · subst e; rw [h.2.2 i (Nat.le_refl _), fillV_get hk hf, List.getElem?_eq_getElem hk]; simp [he]
  · exact h.2.1 i (by omega)
theorem FillTo.put {V : List ByteArray} {Fs : List Fd} {k : Nat} {L : List ByteArray} (h : FillTo V Fs k L) (hk : k < V.length) (hf : k < Fs.length) (he : V[k].toList.isEmpty = true) : FillTo V Fs (k + 1) (L.set k Fs[k].df) := by
  refine ⟨by rw [List.length_set]; exact h.1, fun i hi => ?_, fun i hi => ?_⟩
  · by_cases e : i = k
    · subst e; rw [fillV_get hk hf, List.getElem?_set_self (by rw [h.1]; exact hk)]; simp [he]
    · rw [List.getElem?_set_ne (by omega)]; exact h.2.1 i (by omega)
  · rw [List.getElem?_set_ne (by omega)]; exact h.2.2 i (by omega)
theorem FillTo.done {V : List ByteArray} {Fs : List Fd} {k : Nat} {L : List ByteArray} (h : FillTo V Fs k L) (hl : Fs.length = V.length) (hk : Fs.length ≤ k) : L = fillV V Fs := by
  apply List.ext_getElem?
  intro i
  by_cases e : i < k
  · exact h.2.1 i e
  · rw [List.getElem?_eq_none (by rw [h.1]; omega), List.getElem?_eq_none (by rw [fillV_len hl]; omega)]

theorem StrsOwn.put {lo hi : Nat} {w : World} {b off cap n : Nat} {L : List ByteArray} (h : StrsOwn lo hi w (.slice (some ⟨b, off, none⟩) n cap) L) {k : Nat} (hk : k < L.length) {s : ByteArray} (hs : s.size ≤ maxLen) :
    StrsOwn lo hi (w.setCell ⟨b, off + k, none⟩ (.string s)) (.slice (some ⟨b, off, none⟩) n cap) (L.set k s) := by
  rcases h with ⟨a, cap', h, rfl⟩ | ⟨b', off', cap', h1, h2, h3, h4, h5, h6, h7, h8, h9⟩
  · simp at hk
  · injection h1 with e1 e2 e3
    injection e1 with e1
    injection e1 with q1 q2 q3
    subst q1 q2 e2 e3
    refine Or.inr ⟨b, off, cap, by rw [List.length_set], ?_, by rw [List.length_set]; exact h3, by simpa [World.setCell] using h4, fun i hi' => ?_, fun t ht => ?_, h7, h8, fun i => by rw [World.frozen?_setCell]; exact h9 i⟩
    · intro e; have := congrArg List.length e; rw [List.length_set] at this; simp at this; exact h2 this
    · have hi2 : i < L.length := by rw [List.length_set] at hi'; exact hi'
      by_cases e : i = k
      · subst e; rw [cell_set_eq _ _ _ _ (h5 i hi2)]; simp
      · rw [cell_set_ne0 _ _ _ _ _ (by omega), h5 i hi2, List.getElem_set_ne (by omega)]
    · rcases List.mem_or_eq_of_mem_set ht with ht | rfl
      · exact h6 t ht
      · exact hs
/-- where there is something, it lies in a block -/
theorem StrsOwn.full {lo hi : Nat} {w : World} {a : Option Addr} {n cap : Nat} {L : List ByteArray} (h : StrsOwn lo hi w (.slice a n cap) L) (hL : 0 < L.length) :
    ∃ b off, a = some ⟨b, off, none⟩ ∧ n = L.length ∧ b < w.heap.size ∧ lo ≤ b ∧ b < hi ∧ (∀ i (h : i < L.length), w.cell? ⟨b, off + i, none⟩ = some (.string L[i])) ∧ ∀ i, w.frozen? ⟨b, off + i, none⟩ = false := by
  rcases h with ⟨a', cap', h, rfl⟩ | ⟨b', off', cap', h1, h2, h3, h4, h5, h6, h7, h8, h9⟩
  · simp at hL
  · injection h1 with e1 e2 e3
    exact ⟨b', off', e1, e2, h4, h7, h8, h5, h9⟩
theorem FdsAt.full' {lo : Nat} {w : World} {a : Option Addr} {n cap : Nat} {Fs : List Fd} (h : FdsAt lo w (.slice a n cap) Fs) (hL : 0 < Fs.length) :
    ∃ b off, a = some ⟨b, off, none⟩ ∧ b < w.heap.size ∧ ∀ i (h : i < Fs.length), FdSize Fs[i] ∧ ∃ wv, FdCells w b (off + i * 11) Fs[i] wv ∧ StrsIn lo w wv Fs[i].words := by
  rcases h with ⟨a', cap', h, rfl⟩ | ⟨b', off', cap', h1, h2, h3, h4, h5, h6, h7⟩
  · simp at hL
  · injection h1 with e1 e2 e3
    exact ⟨b', off', e1, h4, h7⟩

theorem new_cell (X : World) (cs : Array Value) (t : TypeId) (g i : Nat) (hg : X.heap.size = g) : (X.alloc (.cells cs t)).cell? ⟨g, i, none⟩ = cs[i]? := by subst hg; simp
theorem new_free (X : World) (cs : Array Value) (t : TypeId) (g i : Nat) (hg : X.heap.size = g) : (X.alloc (.cells cs t)).frozen? ⟨g, i, none⟩ = false := by subst hg; simp

end Go.Proofs.YtdeammfdkaomlaaGreat

namespace Go.Proofs.YtdeammfdkaomlaaGreat
open Go.RowKit Go.Deep

end Go.Proofs.YtdeammfdkaomlaaGreat

namespace Go.Proofs.YtdeammfdkaomlaaGreat
open Go.RowKit Go.Deep

theorem ShsAt.full' {lo : Nat} {w : World} {a : Option Addr} {n cap : Nat} {Ss : List Sh} (h : ShsAt lo w (.slice a n cap) Ss) (hL : 0 < Ss.length) :
    ∃ b off, a = some ⟨b, off, none⟩ ∧ b < w.heap.size ∧ ∀ i (h : i < Ss.length), Ss[i].kind.size ≤ maxLen ∧ ∃ fv, w.cell? ⟨b, off + i * 2, none⟩ = some (.string Ss[i].kind) ∧ w.cell? ⟨b, off + i * 2 + 1, none⟩ = some fv ∧ FdsAt lo w fv Ss[i].fields := by
  rcases h with ⟨a', cap', h, rfl⟩ | ⟨b', off', cap', h1, h2, h3, h4, h5, h7⟩
  · simp at hL
  · injection h1 with e1 e2 e3
    exact ⟨b', off', e1, h4, h7⟩

end Go.Proofs.YtdeammfdkaomlaaGreat

namespace Go.Proofs.YtdeammfdkaomlaaGreat
open Go.RowKit Go.Deep

end Go.Proofs.YtdeammfdkaomlaaGreat

namespace Go.Proofs.YtdeammfdkaomlaaGreat
open Go.RowKit Go.Deep

end Go.Proofs.YtdeammfdkaomlaaGreat

namespace Go.Proofs.YtdeammfdkaomlaaGreat
open Go.RowKit Go.Deep

/-- a variable of its own block: what its cells hold -/
structure Box (w : World) (β : Nat) (cs : Array Value) : Prop where
  lt : β < w.heap.size
  cell : ∀ i, w.cell? ⟨β, i, none⟩ = cs[i]?
  free : ∀ i, w.frozen? ⟨β, i, none⟩ = false

theorem Box.new (X : World) (cs : Array Value) (t : TypeId) (β : Nat) (h : X.heap.size = β) : Box (X.alloc (.cells cs t)) β cs := ⟨by subst h; simp, fun i => new_cell _ _ _ _ _ h, fun i => new_free _ _ _ _ _ h⟩
theorem Box.below {w w' : World} {β B : Nat} {cs : Array Value} (h : Box w β cs) (hb : Below B w w') (hB : β < B) : Box w' β cs :=
  ⟨Nat.lt_of_lt_of_le h.lt hb.size, fun i => by rw [hb.cell (p := ⟨β, i, none⟩) hB]; exact h.cell i, fun i => by rw [hb.frozen (p := ⟨β, i, none⟩) hB]; exact h.free i⟩
theorem Box.on {w w' : World} {β : Nat} {cs : Array Value} (h : Box w β cs) (hb : Below w.heap.size w w') : Box w' β cs := h.below hb h.lt
theorem Box.drew {w : World} {β : Nat} {cs : Array Value} (h : Box w β cs) : Box w.drew β cs := ⟨h.lt, h.cell, h.free⟩
theorem Box.touch {w w' : World} {β lo hi : Nat} {cs : Array Value} (h : Box w β cs) (hb : Touch lo hi w w') (ho : β < lo ∨ hi ≤ β) : Box w' β cs :=
  ⟨Nat.lt_of_lt_of_le h.lt hb.size, fun i => by rw [hb.cell (p := ⟨β, i, none⟩) h.lt ho]; exact h.cell i, fun i => by rw [hb.frozen (p := ⟨β, i, none⟩) h.lt ho]; exact h.free i⟩
theorem Box.set {w : World} {β k : Nat} {cs : Array Value} (h : Box w β cs) (u : Value) (hk : k < cs.size) : Box (w.setCell ⟨β, k, none⟩ u) β (cs.set k u) := by
  refine ⟨by simpa [World.setCell] using h.lt, fun i => ?_, fun i => by rw [World.frozen?_setCell]; exact h.free i⟩
  rw [Array.getElem?_set]
  by_cases hi : k = i
  · subst hi
    rw [if_pos rfl]
    have : (w.cell? ⟨β, k, none⟩) = some cs[k] := by rw [h.cell]; simp
    exact World.cell?_setCell_same' _ _ _ (by rw [this]; rfl)
  · rw [if_neg hi, cell_set_ne0 _ _ _ _ _ hi]; exact h.cell i
theorem Box.setFar {w : World} {β : Nat} {cs : Array Value} (h : Box w β cs) {p : Addr} (hp : p.block ≠ β) (u : Value) : Box (w.setCell p u) β cs :=
  ⟨by simpa [World.setCell] using h.lt, fun i => by rw [World.cell?_setCell_far _ _ _ _ hp]; exact h.cell i, fun i => by rw [World.frozen?_setCell]; exact h.free i⟩

/-- the cells of a block are as they were, and what was there ahead of the call -/
abbrev Held (w : World) (cs : Array Value) (W : World) : Prop := (∀ i, W.cell? ⟨w.heap.size, i, none⟩ = cs[i]?) ∧ w.heap.size < W.heap.size ∧ Hid (Below w.heap.size w W ∧ ∀ i, W.frozen? ⟨w.heap.size, i, none⟩ = false)
theorem Held.box {w W : World} {cs : Array Value} (h : Held w cs W) : Box W w.heap.size cs := ⟨h.2.1, h.1, h.2.2.out.2⟩
theorem Held.mk' {w W : World} {cs : Array Value} (h : Box W w.heap.size cs) (hb : Below w.heap.size w W) : Held w cs W := ⟨h.cell, h.lt, hb, h.free⟩
theorem Held.shs {w W : World} {cs : Array Value} (h : Held w cs W) {lo : Nat} {v : Value} {Ss : List Sh} (hs : ShsAt lo w v Ss) : ShsAt lo W v Ss := hs.below h.2.2.out.1
theorem Held.drew {w W : World} {cs : Array Value} (h : Box W w.heap.size cs) (hb : Below w.heap.size w W) : Held w cs W.drew := Held.mk' ⟨h.lt, h.cell, h.free⟩ hb.drew
theorem Held.on {w W W' : World} {cs : Array Value} (h : Held w cs W) (hb : Below W.heap.size W W') : Held w cs W' := Held.mk' (h.box.on hb) (h.2.2.out.1.trans (hb.mono h.2.2.out.1.size))
theorem Held.alloc {w W : World} {cs : Array Value} (h : Held w cs W) (o : Obj) : Held w cs (W.alloc o) := h.on ((Below.refl _ _).alloc (Nat.le_refl _) _)
theorem Held.set {w W : World} {cs : Array Value} {p : Addr} (h : Held w cs W) (hp : w.heap.size < p.block) (u : Value) : Held w cs (W.setCell p u) := Held.mk' (h.box.setFar (by omega) _) (h.2.2.out.1.setCell (by omega) _)

theorem one_al (X : World) (o : Obj) : Below X.heap.size X (X.alloc o) := (Below.refl _ _).alloc (Nat.le_refl _) _
theorem bt {a b c : World} (h : Below a.heap.size a b) (k : Below b.heap.size b c) : Below a.heap.size a c := h.trans (k.mono h.size)
theorem ShsW.below {lo hi : Nat} {w w' : World} {v : Value} {n : Nat} (h : ShsW lo hi w v n) (hb : Below w.heap.size w w') : ShsW lo hi w' v n := by
  rcases h with h | ⟨b, off, cap, m, h1, h2, h3, h4, h5, h6, h7, h8, h9⟩
  · exact Or.inl h
  · exact Or.inr ⟨b, off, cap, m, h1, h2, h3, h4, h5, h6, h7, h8, h9.below hb⟩

/-- two variables' cells are as they were, and what was there when the region began -/
abbrev Held2 (W0 : World) (b1 : Nat) (cs1 : Array Value) (b2 : Nat) (cs2 : Array Value) (W : World) : Prop :=
  (∀ i, W.cell? ⟨b1, i, none⟩ = cs1[i]?) ∧ (∀ i, W.cell? ⟨b2, i, none⟩ = cs2[i]?) ∧ Hid (Below W0.heap.size W0 W ∧ b1 < W0.heap.size ∧ b2 < W0.heap.size)
theorem Held2.drew {W0 : World} {b1 b2 : Nat} {cs1 cs2 : Array Value} (h1 : Box W0 b1 cs1) (h2 : Box W0 b2 cs2) : Held2 W0 b1 cs1 b2 cs2 W0.drew := ⟨h1.cell, h2.cell, (Below.refl _ _).drew, h1.lt, h2.lt⟩
theorem Held2.on {W0 W W' : World} {b1 b2 : Nat} {cs1 cs2 : Array Value} (h : Held2 W0 b1 cs1 b2 cs2 W) (hb : Below W.heap.size W W') : Held2 W0 b1 cs1 b2 cs2 W' := by
  obtain ⟨h1, h2, h3, h4, h5⟩ := h
  have := h3.size
  exact ⟨fun i => (hb.cell (p := ⟨b1, i, none⟩) (by simp only []; omega)).trans (h1 i), fun i => (hb.cell (p := ⟨b2, i, none⟩) (by simp only []; omega)).trans (h2 i), bt h3 hb, h4, h5⟩
end Go.Proofs.YtdeammfdkaomlaaGreat
