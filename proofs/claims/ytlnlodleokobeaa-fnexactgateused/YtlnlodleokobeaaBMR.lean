import Derived.Test.YtlnlodleokobeaaBG2
import Derived.RangeFuncNested
import Derived.Test.YtlnlodleokobeaaBDA
import Derived.Test.YtlnlodleokobeaaBP1
namespace Go.Proofs.Ytlnlodleokobeaa
open Go.RowKit Go.Deep Go.Shelf

/-- A region without a defer statement is in a round as it is elsewhere. -/
theorem anyIn_round {F : Fence} {n : Nat} {P : Program} {md : Region.Mode} {ops : Array Oper} {Q : Exit → Act → World → Prop} (l : Nat) (hnd : ∀ (i : Nat) (o : Oper), ops[i]? = some o → ∀ c, o.op ≠ .defer c) :
    ∀ (fuel : Nat) (listed : Array Bool) (a : Act) (w : World), wpAnyIn F n P md ops Q fuel listed a w → wpAnyIn (F.inRound l) n P md ops Q fuel listed a w
  | 0, _, _, _, h => h
  | fuel + 1, listed, a, w, ⟨h0, h1⟩ => ⟨h0, fun i hi => by
    have h2 := h1 i hi
    unfold wpOpIn at h2 ⊢
    split
    · rename_i e
      rw [e] at h2
      exact anyIn_round l hnd fuel _ _ _ h2
    · rename_i o e
      rw [e] at h2
      simp only at h2
      split
      · rename_i hw
        rw [if_pos hw] at h2
        have h3 := Oper.wpIn_mono (fun a w h => anyIn_round l hnd fuel _ a w h) h2
        obtain ⟨g1, g2⟩ := h3
        refine ⟨g1, ?_⟩
        rw [Oper.semAt_plain _ _ _ (hnd i o e)] at g2 ⊢
        exact g2
      · rename_i hw
        rw [if_neg hw] at h2
        exact ⟨h2.1, anyIn_round l hnd fuel _ _ _ h2.2⟩⟩
theorem region_round {F : Fence} {n : Nat} {P : Program} {id l : Nat} {ops : Array Oper} {Q : Exit → Act → World → Prop} {a : Act} {w : World} (hm : P.follows .mixedOrders = true) (hnd : ops.all (fun o => match o.op with | .defer _ => false | _ => true) = true)
    (h : wpAnyIn F n P .any ops Q ops.size (Array.replicate ops.size false) a w.drew) : (Code.region id ops true).wpIn (F.inRound l) n P Q a w := by
  refine wpIn_region_any hm (anyIn_round l (fun i o e c hc => ?_) _ _ _ _ h)
  have := Array.all_eq_true_iff_forall_mem.1 hnd o (Array.mem_of_getElem? e)
  rw [hc] at this
  cases this
end Go.Proofs.Ytlnlodleokobeaa

