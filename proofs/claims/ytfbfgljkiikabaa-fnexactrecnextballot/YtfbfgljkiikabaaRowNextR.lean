
import Derived.Test.YtfbfgljkiikabaaNB
import Derived.Test.YtfbfgljkiikabaaOpR0
namespace Go.Proofs.Ytfbfgljkiikabaa
open Go.ChangeShapes Go.WideShapes Go.ChangeAt Go.RowKit Go.Deep
open Go.ChangeMaps (open_string shut_string)

set_option maxRecDepth 100000 in
theorem rnext_lifted (os : Os) (started : os.Started) (H : Type) (enc : TypeId × Value → H) :
    ReturnsInHanded {} Try.checked os 3 .any (Rows.fnExactRecNextBallotSpec.pre6 enc Try.prog Try.f3 Rows.fnExactRecNextBallotRow.domain false) (Rows.fnExactRecNextBallotSpec.post enc Try.prog Try.f3 false true false false) := by
  refine returnsInHanded_of_change (C := Try.checked) Try.own started (by kernel_rfl) Try.func3
    (ChangeSpec.witness6 (enc := enc) (C := Try.checked) false ⟨#[], #[.int .i64 0, .int .i64 0, .int .i64 0], []⟩ 8 (by kernel_rfl) (by kernel_rfl) (by kernel_rfl) (by kernel_rfl)) ?_
  intro W base args ds gs before hval0 hW hcnd _
  have hval : ∀ (j : Nat) t v, Try.f3.params[j]? = some t → args[j]? = some v → Value.okWide Try.prog W .any base t v := hval0
  have hW' := hW
  obtain ⟨p, q, hA0, hV, rfl, hfz, hnd⟩ := hW
  have hA : DataW.TrodAll enc Try.prog W 0 (fun _ => true) true Try.f3.params.toList args.toList ds p := hA0
  rw [Try.params3] at hA hval
  obtain ⟨v0, v1, v2, d0, d1, d2, p0, p1, p2, rfl, rfl, rfl, h0, h1, h2⟩ := trodAll_three hA
  obtain ⟨rfl, rfl⟩ := trodVars_none hV
  obtain ⟨x0, rfl, rfl, rfl, s0⟩ := open_int Try.underlying3 (hval 0 3 v0 rfl rfl) h0
  obtain ⟨x1, rfl, rfl, rfl, s1⟩ := open_int Try.underlying3 (hval 1 3 v1 rfl rfl) h1
  obtain ⟨x2, rfl, rfl, rfl, s2⟩ := open_int Try.underlying3 (hval 2 3 v2 rfl rfl) h2
  clear hA0 hval0
  simp only [List.append_nil] at hW'
  refine (law_next x0 x1 x2 W).mono fun e W' ⟨he, hb⟩ => ?_
  subst he
  exact ⟨_, rfl, ⟨_, _, _, [], _, [], hW', trodAll_mk1 (shut_bool Try.underlying4 true), trodAll_mk3 (shut_int Try.underlying3 s0) (shut_int Try.underlying3 s1) (shut_int Try.underlying3 s2), rfl, hb.frame _, fun h => by cases h⟩⟩

theorem rnext_named : Try.pinned.checked.prog.funcNamed Rows.fnExactRecNextBallotRow.func = some 3 := by kernel_rfl
theorem and_t {a b : Bool} (ha : a = true) (hb : b = true) : (a && b) = true := by rw [ha, hb]; rfl
theorem rnext_c0 : (Rows.fnExactRecNextBallotRow.wf (OpenSpec.ofChange Rows.fnExactRecNextBallotSpec)) = true := by kernel_rfl
theorem rnext_c1 : (laidOutB Try.pinned.checked.prog) = true := by kernel_rfl
theorem rnext_c2 : (mapsRowed Try.pinned.checked.prog) = true := by kernel_rfl
theorem rnext_c3 : (Try.f3.params.all (Try.pinned.checked.prog.readableRec ·)) = true := by kernel_rfl
theorem rnext_c4 : (namedTie Try.pinned.checked.prog Rows.fnExactRecNextBallotRow.named Rows.fnExactRecNextBallotSpec.vars) = true := by kernel_rfl
theorem rnext_c5 : ((Rows.fnExactRecNextBallotRow.stops == [])) = true := by kernel_rfl
theorem rnext_c6 : ((Try.pinned.checked.prog.stops == [])) = true := by kernel_rfl
theorem rnext_c7 : ((Rows.fnExactRecNextBallotRow.knobs == [])) = true := by kernel_rfl
theorem rnext_c8 : ((Try.pinned.checked.prog.stopKnobs == [])) = true := by kernel_rfl
theorem rnext_c9 : ((Rows.fnExactRecNextBallotRow.inPlace == Try.pinned.checked.prog.inPlace 3)) = true := by kernel_rfl
theorem rnext_c10 : ((Rows.fnExactRecNextBallotRow.unfollowed == Try.pinned.checked.prog.unfollowed 3)) = true := by kernel_rfl
theorem rnext_c11 : ((Rows.fnExactRecNextBallotRow.recurses == Try.pinned.checked.prog.recurses 3)) = true := by kernel_rfl
theorem rnext_c12 : ((Rows.fnExactRecNextBallotRow.named == Try.pinned.checked.prog.varsNamed 3)) = true := by kernel_rfl
theorem rnext_c13 : ((Rows.fnExactRecNextBallotRow.maps == (Try.f3.params.toList ++ Rows.fnExactRecNextBallotSpec.plain.varTypes Try.pinned.checked.prog).any (Try.pinned.checked.prog.mapsRec ·))) = true := by kernel_rfl
theorem rnext_c14 : ((Rows.fnExactRecNextBallotRow.ifaces == (Try.f3.params.toList ++ Rows.fnExactRecNextBallotSpec.plain.varTypes Try.pinned.checked.prog).any (Try.pinned.checked.prog.ifacesRec ·))) = true := by kernel_rfl
theorem rnext_c15 : ((Rows.fnExactRecNextBallotRow.mapsOut == Try.pinned.checked.prog.mapsAmong Try.f3.resultTypes.toList)) = true := by kernel_rfl
theorem rnext_c16 : ((Rows.fnExactRecNextBallotRow.loops == (Try.f3.params.toList ++ Rows.fnExactRecNextBallotSpec.plain.varTypes Try.pinned.checked.prog).any (Try.pinned.checked.prog.loopsFrom ·))) = true := by kernel_rfl
theorem rnext_c17 : ((Rows.fnExactRecNextBallotRow.wideKeys == (Try.f3.params.toList ++ Rows.fnExactRecNextBallotSpec.plain.varTypes Try.pinned.checked.prog ++ Try.f3.resultTypes.toList).any (Try.pinned.checked.prog.wideKeysFrom ·))) = true := by kernel_rfl
theorem rnext_c18 : (Rows.fnExactRecNextBallotSpec.vars.all (Try.pinned.checked.prog.varReadable ·)) = true := by kernel_rfl
theorem rnext_c19 : (Try.f3.resultTypes.all (fun t => Try.pinned.checked.prog.readableRec t && decide (t < Try.pinned.checked.prog.types.size))) = true := by kernel_rfl
theorem rnext_c20 : ((Rows.fnExactRecNextBallotRow.ifacesOut == Try.f3.resultTypes.toList.any (Try.pinned.checked.prog.ifacesRec ·))) = true := by kernel_rfl
theorem rnext_c21 : ((Rows.fnExactRecNextBallotRow.loopsOut == Try.f3.resultTypes.toList.any (Try.pinned.checked.prog.loopsFrom ·))) = true := by kernel_rfl
theorem rnext_c22 : ((Rows.fnExactRecNextBallotRow.plainKeys == Try.pinned.checked.prog.plainKeys)) = true := by kernel_rfl
theorem rnext_c23 : (Rows.fnExactRecNextBallotRow.shortTexts.isNone) = true := by kernel_rfl
theorem rnext_c24 : (Try.pinned.checked.prog.stopsHeard) = true := by kernel_rfl
theorem rnext_c25 : (Try.pinned.checked.prog.mayEnter) = true := by kernel_rfl
theorem rnext_c26 : ((Rows.fnExactRecNextBallotRow.lifted == Try.pinned.checked.prog.liftsFinal)) = true := by kernel_rfl
theorem rnext_c27 : ((Try.pinned.checked.prog.make == some Rows.fnExactRecNextBallotRow.make)) = true := by kernel_rfl
theorem rnext_c28 : ((Rows.fnExactRecNextBallotRow.kinds == (if Rows.fnExactRecNextBallotRow.domain.isEmpty then [] else Try.f3.params.toList.map fun t => match Try.pinned.checked.prog.underlying t with | some (.int k) => some k | _ => none))) = true := by kernel_rfl
theorem rnext_c29 : ((Rows.fnExactRecNextBallotRow.pinned == Rows.fnExactRecNextBallotRow.pinnedBy)) = true := by kernel_rfl
theorem rnext_c30 : ((Rows.fnExactRecNextBallotRow.veiled == (Try.f3.params.toList ++ Rows.fnExactRecNextBallotSpec.plain.varTypes Try.pinned.checked.prog ++ Try.f3.resultTypes.toList).any (Try.pinned.checked.prog.veiledRec ·))) = true := by kernel_rfl
theorem rnext_c31 : (Rows.fnExactRecNextBallotRow.veiledFits Try.pinned.checked.prog Try.f3.params.toList (Try.f3.params.toList ++ Rows.fnExactRecNextBallotSpec.plain.varTypes Try.pinned.checked.prog ++ Try.f3.resultTypes.toList)) = true := by kernel_rfl
set_option maxRecDepth 100000 in
theorem rnext_closed : joinedFacts Try.pinned.checked.prog 3 Try.f3 Rows.fnExactRecNextBallotSpec Rows.fnExactRecNextBallotRow = true := and_t (and_t (and_t (and_t (and_t (and_t (and_t (and_t (and_t (and_t (and_t (and_t (and_t (and_t (and_t (and_t (and_t (and_t (and_t (and_t (and_t (and_t (and_t (and_t (and_t (and_t (and_t (and_t (and_t (and_t (and_t rnext_c0 rnext_c1) rnext_c2) rnext_c3) rnext_c4) rnext_c5) rnext_c6) rnext_c7) rnext_c8) rnext_c9) rnext_c10) rnext_c11) rnext_c12) rnext_c13) rnext_c14) rnext_c15) rnext_c16) rnext_c17) rnext_c18) rnext_c19) rnext_c20) rnext_c21) rnext_c22) rnext_c23) rnext_c24) rnext_c25) rnext_c26) rnext_c27) rnext_c28) rnext_c29) rnext_c30) rnext_c31
theorem rnext_inst : Try.f3.isInstance Try.pinned.checked.prog Rows.fnExactRecNextBallotRow.origin Rows.fnExactRecNextBallotRow.targs := of_decide_eq_true (by kernel_rfl)
theorem rnext_wrap : Try.f3.isWrapper Try.pinned.checked.prog Rows.fnExactRecNextBallotRow.wrapper Rows.fnExactRecNextBallotRow.mainSum := by unfold Func.isWrapper; first | (rw [if_pos (by decide +kernel)]; kernel_rfl) | (rw [if_neg (by decide +kernel)]; exact ⟨rfl, rfl⟩)
theorem rnext_holds : Rows.FnExactRecNextBallotSaid :=
  OpenClaim.holds_of_wide 3 Try.f3 rfl rfl rfl rfl rfl rfl rfl ⟨rfl, rfl, rfl, rfl, rfl⟩ rfl rfl rfl rfl rfl rnext_named Try.func3 rnext_closed rnext_inst rnext_wrap
    (fun os started H enc _ => rnext_lifted os started H enc)
end Go.Proofs.Ytfbfgljkiikabaa
