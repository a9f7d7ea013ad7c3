import Derived.Test.YtlnlodleokobeaaGreatALLaw
import Derived.Test.YtlnlodleokobeaaGreatAOpL
import Derived.Test.YtlnlodleokobeaaGreatASA
import Derived.Test.YtlnlodleokobeaaGreatAKA
import Derived.Test.YtlnlodleokobeaaGreatAL1
import Derived.Test.YtlnlodleokobeaaGreatANA
import Derived.Test.YtlnlodleokobeaaGreatAN2
import Derived.Test.YtlnlodleokobeaaGreatAWB
import Derived.Test.YtlnlodleokobeaaGreatAT1
import Derived.Test.YtlnlodleokobeaaGreatAOpX
namespace Go.Proofs.YtlnlodleokobeaaGreat
open Go.ChangeShapes Go.WideShapes Go.ChangeAt Go.RowKit Go.Deep
open Go.ChangeMaps (open_string shut_string)

set_option maxRecDepth 100000 in
theorem lawok_lifted (os : Os) (started : os.Started) (H : Type) (enc : TypeId × Value → H) :
    ReturnsInHanded {} Tryz.checked os 3 .any (Rows.fnExactGateLawOkSpec.pre6 enc Tryz.prog Tryz.f3 Rows.fnExactGateLawOkRow.domain false) (Rows.fnExactGateLawOkSpec.post enc Tryz.prog Tryz.f3 false true false false) := by
  refine returnsInHanded_of_change (C := Tryz.checked) Tryz.own started (by kernel_rfl) Tryz.func3
    (ChangeSpec.witness6 (enc := enc) (C := Tryz.checked) false ⟨#[], #[.agg #[.slice none 0 0, .slice none 0 0, .slice none 0 0]], []⟩ 8 (by kernel_rfl) (by kernel_rfl) (by kernel_rfl) (by kernel_rfl)) ?_
  intro W base args ds gs before hval0 hW hcnd _
  have hval : ∀ (j : Nat) t v, Tryz.f3.params[j]? = some t → args[j]? = some v → Value.okWide Tryz.prog W .any base t v := hval0
  have hW' := hW
  obtain ⟨p, q, hA0, hV, rfl, hfz, hnd⟩ := hW
  have hA : DataW.TrodAll enc Tryz.prog W 0 (fun _ => true) true Tryz.f3.params.toList args.toList ds p := hA0
  rw [Tryz.params3] at hA hval
  obtain ⟨v0, d0, rfl, rfl, h0⟩ := trodAll_one hA
  obtain ⟨rfl, rfl⟩ := trodVars_none hV
  have h0k := h0
  clear hA0 hval0
  simp only [List.append_nil] at hW'
  have hlt0 : ∀ x ∈ p, x.block < W.heap.size := fun x hx => by simpa using hW'.lt x (by simp [hx])
  obtain ⟨sv, mv, tv, Ss, Ms, Ts, rfl, hL⟩ := open_law (hval 0 26 v0 rfl rfl) h0
  refine (law_lawok _ _ _ Ss Ms Ts W hL).mono fun e W' ⟨he, hb⟩ => ?_
  subst he
  have hargs0 := Below.trod Tryz.laidOut (by kernel_rfl) (of_decide_eq_true (by kernel_rfl)) h0k hb hlt0
  exact ⟨_, rfl, ⟨_, _, _, [], _, [], hW', trodAll_mk1 (shut_bool Tryz.underlying4 true), trodAll_mk1 hargs0, rfl, hb.frame _, fun h => by cases h⟩⟩

theorem lawok_holds : Rows.FnExactGateLawOkSaid :=
  OpenClaim.holds_of_wide 3 Tryz.f3 rfl rfl rfl rfl rfl rfl rfl ⟨rfl, rfl, rfl, rfl, rfl⟩ rfl rfl rfl rfl rfl (by kernel_rfl) Tryz.func3 (by kernel_rfl)
    (of_decide_eq_true (by kernel_rfl)) (by unfold Func.isWrapper; first | (rw [if_pos (by decide +kernel)]; kernel_rfl) | (rw [if_neg (by decide +kernel)]; exact ⟨rfl, rfl⟩))
    (fun os started H enc _ => lawok_lifted os started H enc)
end Go.Proofs.YtlnlodleokobeaaGreat

