import Derived.Test.YtemggnmooiaokaaGreatD42
namespace Go.Proofs.YtemggnmooiaokaaGreat
open Go.RowKit Go.Deep Go.Maps

theorem valid_cps {B : Sb} (h : validB B = true) : B.cs.length ≤ 200 ∧ risR rSv B.ss = true ∧ risR aheadB B.cs = true ∧ ∀ i (h : i < B.cs.length), 1 ≤ B.cs[i].nu := by
  unfold validB at h
  simp only [Bool.and_eq_true, decide_eq_true_iff] at h
  obtain ⟨-, -, h1, -, ⟨-, h2⟩, -, h3, h4⟩ := h
  refine ⟨h1, h2, h4, fun i hi => ?_⟩
  have := all_at h3 hi
  unfold cpB at this
  split at this
  · cases this
  · unfold cpT at this
    simp only [Bool.and_eq_true] at this
    exact inB_lo this.1

end Go.Proofs.YtemggnmooiaokaaGreat
