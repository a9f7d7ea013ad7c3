import Derived.Test.YtfohnageehneoaaGreatUHA
import Derived.Test.YtfohnageehneoaaGreatULA
import Derived.Test.YtfohnageehneoaaGreatUTA
import Derived.Test.YtfohnageehneoaaGreatUA2
import Derived.Test.YtfohnageehneoaaGreatUA1
import Derived.Test.YtfohnageehneoaaGreatUDA
import Derived.Deep.OwnRows
import Derived.Maps.Own
import Derived.Maps.Views
import Derived.WideKeyEntry
import Derived.DeepKeys4
import Derived.Maps.RangeWalk
import Derived.Maps.OwnOps
import Derived.RangeFuncNested
import Derived.RangeFuncWrites
import Derived.Maps.OwnIn
import Derived.Test.YtfohnageehneoaaGreatUTB
import Derived.Deep.RegionHeld3
import Derived.Test.YtfohnageehneoaaGreatUTE
import Derived.Test.YtfohnageehneoaaGreatUTD
namespace Go.Proofs.YtfohnageehneoaaGreat
open Go.RowKit Go.Deep

theorem all_no {X : Type} {L : List X} {f : X → Bool} {k : Nat} (hk : k < L.length) (h : f L[k] = false) : L.all f = false := by
  rw [List.all_eq_false]
  exact ⟨L[k], List.getElem_mem hk, by simp [h]⟩
theorem all_yes {X : Type} {L : List X} {f : X → Bool} (h : ∀ i (h : i < L.length), f L[i] = true) : L.all f = true := by
  rw [List.all_eq_true]
  intro x hx
  obtain ⟨i, hi, rfl⟩ := List.getElem_of_mem hx
  exact h i hi
theorem step_all {X : Type} {L : List X} {f : X → Bool} {k : Nat} (hall : ∀ j (h : j < L.length), j < k → f L[j] = true) (hk : k < L.length) (h : f L[k] = true) : ∀ j (h : j < L.length), j < k + 1 → f L[j] = true := fun j hj hjk => by
  by_cases e : j = k
  · subst e; exact h
  · exact hall j hj (by omega)
theorem placeT_neg (Ts : List Tm) (s : ByteArray) : decide (placeT Ts s < 0) = !hasT Ts s := by
  rw [hasT_eq]
  unfold placeT
  by_cases h : plT Ts s < Ts.length
  · simp [h]
  · simp [h]


end Go.Proofs.YtfohnageehneoaaGreat

namespace Go.Proofs.YtfohnageehneoaaGreat
open Go.RowKit Go.Deep Go.Maps

end Go.Proofs.YtfohnageehneoaaGreat

namespace Go.Proofs.YtfohnageehneoaaGreat
open Go.RowKit Go.Deep

/-- the worlds in which memory has only been added to -/
abbrev Up (W0 : World) : World → Prop := fun W => Below W0.heap.size W0 W
theorem Up.cell {W0 : World} (X : In (Up W0)) {p : Addr} {v : Value} (h : W0.cell? p = some v) : X.w.cell? p = some v :=
  (Below.cell (show Below W0.heap.size W0 X.w from X.h) (World.block_lt_of_cell? W0 _ h)).trans h
theorem Up.next {W0 : World} (X : In (Up W0)) {W' : World} (h : Below X.w.heap.size X.w W') : ∃ Y : In (Up W0), W' = Y.w :=
  ⟨⟨W', X.h.trans (h.mono X.h.size)⟩, rfl⟩
end Go.Proofs.YtfohnageehneoaaGreat

