
import Derived.Test.YtfajekibnjdlmabDoorT7
import Derived.Deep.RegionHeld3
namespace Go.Proofs.YtfajekibnjdlmabDoor
open Go.RowKit Go.Deep

theorem bt {W0 W W' : World} (h : Below W0.heap.size W0 W) (hb : Below W.heap.size W W') : Below W0.heap.size W0 W' := h.trans (hb.mono h.size)
abbrev Held2 (W0 : World) (b1 : Nat) (cs1 : Array Value) (b2 : Nat) (cs2 : Array Value) (W : World) : Prop :=
  (∀ i, W.cell? ⟨b1, i, none⟩ = cs1[i]?) ∧ (∀ i, W.cell? ⟨b2, i, none⟩ = cs2[i]?) ∧ Hid (Below W0.heap.size W0 W ∧ b1 < W0.heap.size ∧ b2 < W0.heap.size)
theorem Held2.drew {W0 : World} {b1 b2 : Nat} {cs1 cs2 : Array Value} (h1 : Box W0 b1 cs1) (h2 : Box W0 b2 cs2) : Held2 W0 b1 cs1 b2 cs2 W0.drew := ⟨h1.cell, h2.cell, (Below.refl _ _).drew, h1.lt, h2.lt⟩
theorem Held2.on {W0 W W' : World} {b1 b2 : Nat} {cs1 cs2 : Array Value} (h : Held2 W0 b1 cs1 b2 cs2 W) (hb : Below W.heap.size W W') : Held2 W0 b1 cs1 b2 cs2 W' := by
  obtain ⟨h1, h2, h3, h4, h5⟩ := h
  have := h3.size
  exact ⟨fun i => (hb.cell (p := ⟨b1, i, none⟩) (by simp only []; omega)).trans (h1 i), fun i => (hb.cell (p := ⟨b2, i, none⟩) (by simp only []; omega)).trans (h2 i), bt h3 hb, h4, h5⟩
theorem Held2.base {W0 W : World} {b1 b2 : Nat} {cs1 cs2 : Array Value} (h : Held2 W0 b1 cs1 b2 cs2 W) : Below W0.heap.size W0 W := h.2.2.out.1

theorem allows_in {Ts : List Tm} {r : Ru} {v : Int} {kind team name : ByteArray} (h : ruleB r = true) : (inB 1 5 v && givesP Ts r kind team name v) = givesP Ts r kind team name v := by
  cases hg : givesP Ts r kind team name v with
  | false => simp
  | true =>
    unfold givesP at hg
    rw [Bool.and_eq_true] at hg
    have := vbs_in (rule_vbs h) hg.2
    have e : inB 1 5 v = true := by unfold inB; simp; omega
    rw [e]; rfl

end Go.Proofs.YtfajekibnjdlmabDoor
