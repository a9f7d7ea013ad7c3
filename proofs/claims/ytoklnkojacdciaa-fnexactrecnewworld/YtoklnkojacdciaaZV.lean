
import Derived.Test.YtoklnkojacdciaaZC
namespace Go.Proofs.Ytoklnkojacdciaa
open Go.RowKit Go.Deep

def svF (L : List Sv) (s : ByteArray) : Option Sv := L.find? fun x => x.nm.toList == s.toList
def hasBe (L : List Be) (s : ByteArray) : Bool := L.any fun x => x.nm.toList == s.toList
def cpT (B : Sb) (c : Cp) (x : Sv) : Bool := inB 1 (x.nx - 1) c.nu && (inB 1 B.now c.ve && (inB 1 1000000 c.im && (inB 1 4 c.st && (if c.st == 1 then c.be.toList.isEmpty else hasBe B.bs c.be))))
def cpB (B : Sb) (c : Cp) : Bool := match svF B.ss c.se with
  | none => false
  | some x => cpT B c x
def aheadB (a b : Cp) : Bool := Op.bytesLess a.se.toList b.se.toList || ((a.se.toList == b.se.toList) && decide (a.nu < b.nu))
/-- each stands behind the one ahead of it -/
def risN {X : Type} (r : X → X → Bool) (L : List X) : Nat → Bool
  | 0 => true
  | j + 1 => match L[j]?, L[j + 1]? with
    | some x, some y => r x y
    | _, _ => true
def risR {X : Type} (r : X → X → Bool) (L : List X) : Bool := (List.range L.length).all (risN r L)
theorem risN_at {X : Type} {r : X → X → Bool} {L : List X} {j : Nat} (h : j + 1 < L.length) : risN r L (j + 1) = r L[j] L[j + 1] := by
  show (match L[j]?, L[j + 1]? with | some x, some y => r x y | _, _ => true) = _
  rw [List.getElem?_eq_getElem (by omega), List.getElem?_eq_getElem h]
def rSv (x y : Sv) : Bool := Op.bytesLess x.nm.toList y.nm.toList
def rBe (x y : Be) : Bool := Op.bytesLess x.nm.toList y.nm.toList
def beB (x : Be) : Bool := nmB x.nm
/-- where a service stands; whether a berth is there -/
def svI (L : List Sv) (s : ByteArray) : Nat := L.findIdx fun x => x.nm.toList == s.toList
def SvPl (L : List Sv) (s : ByteArray) (r : Int) : Prop := (r = -1 ∧ svF L s = none) ∨ (r = (svI L s : Int) ∧ ∃ (h : svI L s < L.length), svF L s = some L[svI L s])
def BePl (L : List Be) (s : ByteArray) (r : Int) : Prop := decide (0 ≤ r) = hasBe L s
/-- a valid book -/
def validB (B : Sb) : Bool := inB 0 1000000 B.now && (decide (B.ss.length ≤ 8) && (decide (B.cs.length ≤ 200) && (decide (B.bs.length ≤ 6) && ((B.ss.all (svB B.now) && risR rSv B.ss) && ((B.bs.all beB && risR rBe B.bs) && (B.cs.all (cpB B) && risR aheadB B.cs))))))
theorem zall_no {X : Type} {L : List X} {f : X → Bool} {k : Nat} (hk : k < L.length) (h : f L[k] = false) : L.all f = false := by
  rw [List.all_eq_false]
  exact ⟨L[k], List.getElem_mem hk, by simp [h]⟩
theorem zall_yes {X : Type} {L : List X} {f : X → Bool} (h : ∀ i (h : i < L.length), f L[i] = true) : L.all f = true := by
  rw [List.all_eq_true]
  intro x hx
  obtain ⟨i, hi, rfl⟩ := List.getElem_of_mem hx
  exact h i hi
theorem zall_at {X : Type} {L : List X} {f : X → Bool} (h : L.all f = true) {k : Nat} (hk : k < L.length) : f L[k] = true := List.all_eq_true.1 h _ (List.getElem_mem hk)
theorem zstep_all {X : Type} {L : List X} {f : X → Bool} {k : Nat} (hall : ∀ j (h : j < L.length), j < k → f L[j] = true) (hk : k < L.length) (h : f L[k] = true) : ∀ j (h : j < L.length), j < k + 1 → f L[j] = true := fun j hj hjk => by
  by_cases e : j = k
  · subst e; exact h
  · exact hall j hj (by omega)
theorem find_at {X : Type} {L : List X} {f : X → Bool} {k : Nat} (hk : k < L.length) (hno : ∀ j (h : j < L.length), j < k → f L[j] = false) (h : f L[k] = true) : L.find? f = some L[k] := by
  rw [List.find?_eq_some_iff_getElem]
  exact ⟨h, k, hk, rfl, fun j hj => by rw [hno j (by omega) hj]; rfl⟩
theorem idx_at {X : Type} {L : List X} {f : X → Bool} {k : Nat} (hk : k < L.length) (hno : ∀ j (h : j < L.length), j < k → f L[j] = false) (h : f L[k] = true) : L.findIdx f = k := (List.findIdx_eq hk).2 ⟨h, fun j hj => hno j (by omega) hj⟩
theorem SvPl.at {L : List Sv} {s : ByteArray} {k : Nat} (hk : k < L.length) (hno : ∀ j (h : j < L.length), j < k → (L[j].nm.toList == s.toList) = false) (h : (L[k].nm.toList == s.toList) = true) : SvPl L s (k : Int) := by
  have hi : svI L s = k := idx_at (f := fun x : Sv => x.nm.toList == s.toList) hk hno h
  refine Or.inr ?_
  rw [hi]
  exact ⟨rfl, hk, find_at (f := fun x : Sv => x.nm.toList == s.toList) hk hno h⟩
theorem find_none {X : Type} {L : List X} {f : X → Bool} (hno : ∀ j (h : j < L.length), f L[j] = false) : L.find? f = none := by
  rw [List.find?_eq_none]
  intro x hx
  obtain ⟨i, hi, rfl⟩ := List.getElem_of_mem hx
  rw [hno i hi]; exact Bool.false_ne_true
theorem any_at {X : Type} {L : List X} {f : X → Bool} {k : Nat} (hk : k < L.length) (h : f L[k] = true) : L.any f = true := List.any_eq_true.2 ⟨_, List.getElem_mem hk, h⟩
theorem any_none {X : Type} {L : List X} {f : X → Bool} (hno : ∀ j (h : j < L.length), f L[j] = false) : L.any f = false := by
  rw [List.any_eq_false]
  intro x hx
  obtain ⟨i, hi, rfl⟩ := List.getElem_of_mem hx
  rw [hno i hi]; exact Bool.false_ne_true
theorem svB_nx {now : Int} {x : Sv} (h : svB now x = true) : 1 ≤ x.nx ∧ x.nx ≤ 1000000 := by
  unfold svB at h
  simp only [Bool.and_eq_true] at h
  have := h.2.2.2.1
  exact ⟨inB_lo this, inB_hi this⟩
end Go.Proofs.Ytoklnkojacdciaa
