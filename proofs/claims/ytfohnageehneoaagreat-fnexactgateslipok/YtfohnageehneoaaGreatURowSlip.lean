import Derived.Test.YtfohnageehneoaaGreatULSlip
import Derived.Test.YtfohnageehneoaaGreatUBBL
import Derived.Test.YtfohnageehneoaaGreatUOpSlip
import Derived.Test.YtfohnageehneoaaGreatUOpX
namespace Go.Proofs.YtfohnageehneoaaGreat
open Go.ChangeShapes Go.WideShapes Go.ChangeAt Go.RowKit Go.Deep
open Go.ChangeMaps (open_string shut_string)

set_option maxRecDepth 100000 in
theorem slip_lifted (os : Os) (started : os.Started) (H : Type) (enc : TypeId × Value → H) :
    ReturnsInHanded {} Tryz.checked os 6 .any (Rows.fnExactGateSlipOkSpec.pre6 enc Tryz.prog Tryz.f6 Rows.fnExactGateSlipOkRow.domain false) (Rows.fnExactGateSlipOkSpec.post enc Tryz.prog Tryz.f6 false true false false) := by
  refine returnsInHanded_of_change (C := Tryz.checked) Tryz.own started (by kernel_rfl) Tryz.func6
    (ChangeSpec.witness6 (enc := enc) (C := Tryz.checked) false ⟨#[], #[.agg #[.slice none 0 0, .slice none 0 0, .slice none 0 0], .agg #[.string .empty, .string .empty, .int .i64 0, .string .empty, .string .empty, .string .empty, .slice none 0 0, .slice none 0 0, .int .i64 0, .string .empty, .string .empty, .slice none 0 0, .string .empty, .string .empty, .string .empty, .int .i64 0, .int .i64 0, .slice none 0 0]], []⟩ 8 (by kernel_rfl) (by kernel_rfl) (by kernel_rfl) (by kernel_rfl)) ?_
  intro W base args ds gs before hval0 hW hcnd _
  have hval : ∀ (j : Nat) t v, Tryz.f6.params[j]? = some t → args[j]? = some v → Value.okWide Tryz.prog W .any base t v := hval0
  have hW' := hW
  obtain ⟨p, q, hA0, hV, rfl, hfz, hnd⟩ := hW
  have hA : DataW.TrodAll enc Tryz.prog W 0 (fun _ => true) true Tryz.f6.params.toList args.toList ds p := hA0
  rw [Tryz.params6] at hA hval
  obtain ⟨v0, v1, d0, d1, p0, p1, rfl, rfl, rfl, h0, h1⟩ := trodAll_two hA
  obtain ⟨rfl, rfl⟩ := trodVars_none hV
  have h0k := h0
  have h1k := h1
  clear hA0 hval0
  simp only [List.append_nil] at hW'
  have hlt0 : ∀ x ∈ p0, x.block < W.heap.size := fun x hx => by simpa using hW'.lt x (by simp [hx])
  have hlt1 : ∀ x ∈ p1, x.block < W.heap.size := fun x hx => by simpa using hW'.lt x (by simp [hx])
  obtain ⟨sv, mv, tv, Ss, Ms, Ts, rfl, hL⟩ := open_law (hval 0 26 v0 rfl rfl) h0
  obtain ⟨va, ha, qa, wv, S, rfl, hA1⟩ := open_slip (hval 1 67 v1 rfl rfl) h1
  refine (law_slip _ _ _ _ _ _ _ Ss Ms Ts S W hL hA1).mono fun e W' ⟨he, hb⟩ => ?_
  subst he
  have hargs0 := Below.trod Tryz.laidOut (by kernel_rfl) (of_decide_eq_true (by kernel_rfl)) h0k hb hlt0
  have hargs1 := Below.trod Tryz.laidOut (by kernel_rfl) (of_decide_eq_true (by kernel_rfl)) h1k hb hlt1
  exact ⟨_, rfl, ⟨_, _, _, [], _, [], hW', trodAll_mk1 (shut_bool Tryz.underlying4 true), trodAll_mk2 hargs0 hargs1, rfl, hb.frame _, fun h => by cases h⟩⟩

theorem slip_named : Tryz.pinned.checked.prog.funcNamed Rows.fnExactGateSlipOkRow.func = some 6 := by kernel_rfl
theorem and_t {a b : Bool} (ha : a = true) (hb : b = true) : (a && b) = true := by rw [ha, hb]; rfl
theorem slip_c0 : (Rows.fnExactGateSlipOkRow.wf (OpenSpec.ofChange Rows.fnExactGateSlipOkSpec)) = true := by kernel_rfl
theorem slip_c1 : (laidOutB Tryz.pinned.checked.prog) = true := by kernel_rfl
theorem slip_c2 : (mapsRowed Tryz.pinned.checked.prog) = true := by kernel_rfl
theorem slip_c3 : (Tryz.f6.params.all (Tryz.pinned.checked.prog.readableRec ·)) = true := by kernel_rfl
theorem slip_c4 : (namedTie Tryz.pinned.checked.prog Rows.fnExactGateSlipOkRow.named Rows.fnExactGateSlipOkSpec.vars) = true := by kernel_rfl
theorem slip_c5 : ((Rows.fnExactGateSlipOkRow.stops == [])) = true := by kernel_rfl
theorem slip_c6 : ((Tryz.pinned.checked.prog.stops == [])) = true := by kernel_rfl
theorem slip_c7 : ((Rows.fnExactGateSlipOkRow.knobs == [])) = true := by kernel_rfl
theorem slip_c8 : ((Tryz.pinned.checked.prog.stopKnobs == [])) = true := by kernel_rfl
theorem slip_c9 : ((Rows.fnExactGateSlipOkRow.inPlace == Tryz.pinned.checked.prog.inPlace 6)) = true := by kernel_rfl
theorem slip_c10 : ((Rows.fnExactGateSlipOkRow.unfollowed == Tryz.pinned.checked.prog.unfollowed 6)) = true := by kernel_rfl
theorem slip_c11 : ((Rows.fnExactGateSlipOkRow.recurses == Tryz.pinned.checked.prog.recurses 6)) = true := by kernel_rfl
theorem slip_c12 : ((Rows.fnExactGateSlipOkRow.named == Tryz.pinned.checked.prog.varsNamed 6)) = true := by kernel_rfl
theorem slip_c13 : ((Rows.fnExactGateSlipOkRow.maps == (Tryz.f6.params.toList ++ Rows.fnExactGateSlipOkSpec.plain.varTypes Tryz.pinned.checked.prog).any (Tryz.pinned.checked.prog.mapsRec ·))) = true := by kernel_rfl
theorem slip_c14 : ((Rows.fnExactGateSlipOkRow.ifaces == (Tryz.f6.params.toList ++ Rows.fnExactGateSlipOkSpec.plain.varTypes Tryz.pinned.checked.prog).any (Tryz.pinned.checked.prog.ifacesRec ·))) = true := by kernel_rfl
theorem slip_c15 : ((Rows.fnExactGateSlipOkRow.mapsOut == Tryz.pinned.checked.prog.mapsAmong Tryz.f6.resultTypes.toList)) = true := by kernel_rfl
theorem slip_c16 : ((Rows.fnExactGateSlipOkRow.loops == (Tryz.f6.params.toList ++ Rows.fnExactGateSlipOkSpec.plain.varTypes Tryz.pinned.checked.prog).any (Tryz.pinned.checked.prog.loopsFrom ·))) = true := by kernel_rfl
theorem slip_c17 : ((Rows.fnExactGateSlipOkRow.wideKeys == (Tryz.f6.params.toList ++ Rows.fnExactGateSlipOkSpec.plain.varTypes Tryz.pinned.checked.prog ++ Tryz.f6.resultTypes.toList).any (Tryz.pinned.checked.prog.wideKeysFrom ·))) = true := by kernel_rfl
theorem slip_c18 : (Rows.fnExactGateSlipOkSpec.vars.all (Tryz.pinned.checked.prog.varReadable ·)) = true := by kernel_rfl
theorem slip_c19 : (Tryz.f6.resultTypes.all (fun t => Tryz.pinned.checked.prog.readableRec t && decide (t < Tryz.pinned.checked.prog.types.size))) = true := by kernel_rfl
theorem slip_c20 : ((Rows.fnExactGateSlipOkRow.ifacesOut == Tryz.f6.resultTypes.toList.any (Tryz.pinned.checked.prog.ifacesRec ·))) = true := by kernel_rfl
theorem slip_c21 : ((Rows.fnExactGateSlipOkRow.loopsOut == Tryz.f6.resultTypes.toList.any (Tryz.pinned.checked.prog.loopsFrom ·))) = true := by kernel_rfl
theorem slip_c22 : ((Rows.fnExactGateSlipOkRow.plainKeys == Tryz.pinned.checked.prog.plainKeys)) = true := by kernel_rfl
theorem slip_c23 : (Rows.fnExactGateSlipOkRow.shortTexts.isNone) = true := by kernel_rfl
theorem slip_c24 : (Tryz.pinned.checked.prog.stopsHeard) = true := by kernel_rfl
theorem slip_c25 : (Tryz.pinned.checked.prog.mayEnter) = true := by kernel_rfl
theorem slip_c26 : ((Rows.fnExactGateSlipOkRow.lifted == Tryz.pinned.checked.prog.liftsFinal)) = true := by kernel_rfl
theorem slip_c27 : ((Tryz.pinned.checked.prog.make == some Rows.fnExactGateSlipOkRow.make)) = true := by kernel_rfl
theorem slip_c28 : ((Rows.fnExactGateSlipOkRow.kinds == (if Rows.fnExactGateSlipOkRow.domain.isEmpty then [] else Tryz.f6.params.toList.map fun t => match Tryz.pinned.checked.prog.underlying t with | some (.int k) => some k | _ => none))) = true := by kernel_rfl
theorem slip_c29 : ((Rows.fnExactGateSlipOkRow.pinned == Rows.fnExactGateSlipOkRow.pinnedBy)) = true := by kernel_rfl
theorem slip_c30 : ((Rows.fnExactGateSlipOkRow.veiled == (Tryz.f6.params.toList ++ Rows.fnExactGateSlipOkSpec.plain.varTypes Tryz.pinned.checked.prog ++ Tryz.f6.resultTypes.toList).any (Tryz.pinned.checked.prog.veiledRec ·))) = true := by kernel_rfl
theorem slip_c31 : (Rows.fnExactGateSlipOkRow.veiledFits Tryz.pinned.checked.prog Tryz.f6.params.toList (Tryz.f6.params.toList ++ Rows.fnExactGateSlipOkSpec.plain.varTypes Tryz.pinned.checked.prog ++ Tryz.f6.resultTypes.toList)) = true := by kernel_rfl
set_option maxRecDepth 100000 in
theorem slip_closed : joinedFacts Tryz.pinned.checked.prog 6 Tryz.f6 Rows.fnExactGateSlipOkSpec Rows.fnExactGateSlipOkRow = true := and_t (and_t (and_t (and_t (and_t (and_t (and_t (and_t (and_t (and_t (and_t (and_t (and_t (and_t (and_t (and_t (and_t (and_t (and_t (and_t (and_t (and_t (and_t (and_t (and_t (and_t (and_t (and_t (and_t (and_t (and_t slip_c0 slip_c1) slip_c2) slip_c3) slip_c4) slip_c5) slip_c6) slip_c7) slip_c8) slip_c9) slip_c10) slip_c11) slip_c12) slip_c13) slip_c14) slip_c15) slip_c16) slip_c17) slip_c18) slip_c19) slip_c20) slip_c21) slip_c22) slip_c23) slip_c24) slip_c25) slip_c26) slip_c27) slip_c28) slip_c29) slip_c30) slip_c31
theorem slip_inst : Tryz.f6.isInstance Tryz.pinned.checked.prog Rows.fnExactGateSlipOkRow.origin Rows.fnExactGateSlipOkRow.targs := of_decide_eq_true (by kernel_rfl)
theorem slip_wrap : Tryz.f6.isWrapper Tryz.pinned.checked.prog Rows.fnExactGateSlipOkRow.wrapper Rows.fnExactGateSlipOkRow.mainSum := by unfold Func.isWrapper; first | (rw [if_pos (by decide +kernel)]; kernel_rfl) | (rw [if_neg (by decide +kernel)]; exact ⟨rfl, rfl⟩)
theorem slip_holds : Rows.FnExactGateSlipOkSaid :=
  OpenClaim.holds_of_wide 6 Tryz.f6 rfl rfl rfl rfl rfl rfl rfl ⟨rfl, rfl, rfl, rfl, rfl⟩ rfl rfl rfl rfl rfl slip_named Tryz.func6 slip_closed slip_inst slip_wrap
    (fun os started H enc _ => slip_lifted os started H enc)
end Go.Proofs.YtfohnageehneoaaGreat

