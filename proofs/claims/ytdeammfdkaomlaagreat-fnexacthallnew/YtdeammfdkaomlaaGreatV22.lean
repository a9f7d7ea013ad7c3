import Derived.Test.YtdeammfdkaomlaaGreatV14
import Derived.Test.YtdeammfdkaomlaaGreatV18
import Derived.Test.YtdeammfdkaomlaaGreatV19
namespace Go.Proofs.YtdeammfdkaomlaaGreat
open Go.RowKit Go.Deep

/-- a book -/
structure Bk where
  now : Int
  tick : Int
  given : Int
  os : List Ob
  gs : List Gr
  ls : List Le
  ps : List Pu
/-- a book in memory, all of it above lo -/
structure BookAt (lo : Nat) (w : World) (ov gv lv pv : Value) (B : Bk) : Prop where
  obs : ObsAt lo w ov B.os
  grs : GrsAt lo w gv B.gs
  les : LesAt lo w lv B.ls
  pus : PusAt lo w pv B.ps
theorem BookAt.below {lo : Nat} {w w' : World} {ov gv lv pv : Value} {B : Bk} (h : BookAt lo w ov gv lv pv B) (hb : Below w.heap.size w w') : BookAt lo w' ov gv lv pv B :=
  ⟨h.obs.below hb, h.grs.below hb, h.les.below hb, h.pus.below hb⟩
theorem BookAt.mono {lo lo' : Nat} {w : World} {ov gv lv pv : Value} {B : Bk} (h : BookAt lo w ov gv lv pv B) (hl : lo' ≤ lo) : BookAt lo' w ov gv lv pv B :=
  ⟨h.obs.mono hl, h.grs.mono hl, h.les.mono hl, h.pus.mono hl⟩
end Go.Proofs.YtdeammfdkaomlaaGreat
namespace Go.Proofs.YtdeammfdkaomlaaGreat
open Go.RowKit Go.Deep

def svF (L : List Sv) (s : ByteArray) : Option Sv := L.find? fun x => x.nm.toList == s.toList
/-- where a service stands; whether a berth is there -/
def svI (L : List Sv) (s : ByteArray) : Nat := L.findIdx fun x => x.nm.toList == s.toList
def SvPl (L : List Sv) (s : ByteArray) (r : Int) : Prop := (r = -1 ∧ svF L s = none) ∨ (r = (svI L s : Int) ∧ ∃ (h : svI L s < L.length), svF L s = some L[svI L s])
theorem find_at {X : Type} {L : List X} {f : X → Bool} {k : Nat} (hk : k < L.length) (hno : ∀ j (h : j < L.length), j < k → f L[j] = false) (h : f L[k] = true) : L.find? f = some L[k] := by
  rw [List.find?_eq_some_iff_getElem]
  exact ⟨h, k, hk, rfl, fun j hj => by rw [hno j (by omega) hj]; rfl⟩
theorem idx_at {X : Type} {L : List X} {f : X → Bool} {k : Nat} (hk : k < L.length) (hno : ∀ j (h : j < L.length), j < k → f L[j] = false) (h : f L[k] = true) : L.findIdx f = k := (List.findIdx_eq hk).2 ⟨h, fun j hj => hno j (by omega) hj⟩
theorem SvPl.at {L : List Sv} {s : ByteArray} {k : Nat} (hk : k < L.length) (hno : ∀ j (h : j < L.length), j < k → (L[j].nm.toList == s.toList) = false) (h : (L[k].nm.toList == s.toList) = true) : SvPl L s (k : Int) := by
  have hi : svI L s = k := idx_at (f := fun x : Sv => x.nm.toList == s.toList) hk hno h
  refine Or.inr ?_
  rw [hi]
  exact ⟨rfl, hk, find_at (f := fun x : Sv => x.nm.toList == s.toList) hk hno h⟩
end Go.Proofs.YtdeammfdkaomlaaGreat
