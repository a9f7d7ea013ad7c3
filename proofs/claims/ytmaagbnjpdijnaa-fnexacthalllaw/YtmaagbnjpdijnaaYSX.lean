import Derived.Test.YtmaagbnjpdijnaaYCLE
import Derived.Test.YtmaagbnjpdijnaaYBBL
import Derived.Test.YtmaagbnjpdijnaaYHX
import Derived.Lib.SliceRun
import Derived.Deep.RegionLaw
import Derived.Deep.RegionHeldLaw
import Derived.Laws.IdiomCopy
import Derived.Test.YtmaagbnjpdijnaaYBOG
import Derived.Test.YtmaagbnjpdijnaaYOWX
import Derived.Test.YtmaagbnjpdijnaaYM2
namespace Go.Proofs.Ytmaagbnjpdijnaa
open Go.RowKit Go.Deep

end Go.Proofs.Ytmaagbnjpdijnaa

namespace Go.Proofs.Ytmaagbnjpdijnaa
open Go.RowKit Go.Deep

section
variable (lo : Nat) (ov gv lv pv : Value) (B : Bk) (w : World)

end
end Go.Proofs.Ytmaagbnjpdijnaa

namespace Go.Proofs.Ytmaagbnjpdijnaa
open Go.RowKit Go.Deep

/-! a ledger gets what a purse has -/
def freeL (Ls : List Le) (p : Nat) (am : Int) : List Le := match Ls[p]? with
  | some x => Ls.set p { x with fr := x.fr + am }
  | none => Ls
theorem freeL_at {Ls : List Le} {p : Nat} (h : p < Ls.length) (am : Int) : freeL Ls p am = Ls.set p { Ls[p] with fr := Ls[p].fr + am } := by
  unfold freeL
  rw [List.getElem?_eq_getElem h]
theorem freeL_len (Ls : List Le) (p : Nat) (am : Int) : (freeL Ls p am).length = Ls.length := by
  unfold freeL
  split
  · rw [List.length_set]
  · rfl
theorem LesOwn.frz {l0 l1 : Nat} {W : World} {b off cap : Nat} {Ls : List Le} (h : LesOwn l0 l1 W (.slice (some ⟨b, off, none⟩) Ls.length cap) Ls) (hp : 0 < Ls.length) : ∀ i, W.frozen? ⟨b, i, none⟩ = false := by
  rcases h with ⟨_, _, _, h⟩ | ⟨b', off', cap', c, X, h1, h2, h3, h4, h5, h6⟩
  · rw [h] at hp; simp at hp
  · injection h1 with e1 _ e3
    injection e1 with e1
    injection e1 with e1 e2
    subst e1 e2 e3
    exact h6.frz
theorem LesOwn.free {l0 l1 : Nat} {W : World} {b off cap : Nat} {Ls : List Le} (h : LesOwn l0 l1 W (.slice (some ⟨b, off, none⟩) Ls.length cap) Ls) {p : Nat} (hp : p < Ls.length) (am : Int) :
    LesOwn l0 l1 (W.setCell ⟨b, off + p * 4 + 3, none⟩ (.int .i64 (Ls[p].fr + am))) (.slice (some ⟨b, off, none⟩) Ls.length cap) (freeL Ls p am) ∧ Touch l0 l1 W (W.setCell ⟨b, off + p * 4 + 3, none⟩ (.int .i64 (Ls[p].fr + am))) := by
  rcases h with ⟨_, _, _, h⟩ | ⟨b', off', cap', c, X, h1, h2, h3, h4, h5, h6⟩
  · rw [h] at hp; simp at hp
  · injection h1 with e1 _ e3
    injection e1 with e1
    injection e1 with e1 e2
    subst e1 e2 e3
    have hx := h6.row p hp
    rw [h5 p hp] at hx
    obtain ⟨hz, hc⟩ := hx
    have hbc : b < c p := Nat.lt_of_lt_of_le h6.bc (h6.le (Nat.zero_le _) (by omega))
    have hst : LeSt W b (off + p * 4) (c p) (c (p + 1)) W Ls[p] := ⟨Near.refl _ _ _ _ _ _, hbc, hc, h6.frz, h6.lt⟩
    have hs3 := hst.s3 (Ls[p].fr + am)
    have hrow := h6.near hp hs3.near (show LeOne b (off + p * 4) (c p) (c (p + 1)) _ { Ls[p] with fr := Ls[p].fr + am } from ⟨⟨hz.s0, hz.s1⟩, hs3.cells⟩)
    refine ⟨Or.inr ⟨b, off, cap, c, _, by rw [freeL_len], ?_, by rw [freeL_len]; exact h3, by rw [freeL_len]; exact h4, fun i hi => ?_, by rw [freeL_len]; exact hrow⟩, hs3.near.wide h6.lt (by have := h6.low; omega) (Nat.le_trans (h6.le (by omega) (Nat.le_refl _)) h6.top) ⟨h6.low, h6.bh⟩⟩
    · intro e
      have := congrArg List.length e
      rw [freeL_len] at this
      exact h2 (List.length_eq_zero_iff.1 (by simpa using this))
    · have hi' : i < Ls.length := by rw [freeL_len] at hi; exact hi
      have e : (freeL Ls p am)[i] = (Ls.set p { Ls[p] with fr := Ls[p].fr + am })[i]'(by rw [List.length_set]; exact hi') := by
        have := freeL_at hp am
        simp only [this]
      rw [e, List.getElem_set]
      by_cases ei : i = p
      · subst ei; simp
      · rw [if_neg ei, if_neg (fun h => ei h.symm)]; exact h5 i hi'

end Go.Proofs.Ytmaagbnjpdijnaa

namespace Go.Proofs.Ytmaagbnjpdijnaa
open Go.RowKit Go.Deep Go.Lib

end Go.Proofs.Ytmaagbnjpdijnaa

namespace Go.Proofs.Ytmaagbnjpdijnaa
open Go.RowKit Go.Deep

end Go.Proofs.Ytmaagbnjpdijnaa

