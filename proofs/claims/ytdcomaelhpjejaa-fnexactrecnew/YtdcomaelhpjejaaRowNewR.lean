
import Derived.Test.YtdcomaelhpjejaaLNewR
import Derived.Test.YtdcomaelhpjejaaOpR0
namespace Go.Proofs.Ytdcomaelhpjejaa
open Go.ChangeShapes Go.WideShapes Go.ChangeAt Go.RowKit Go.Deep
open Go.ChangeMaps (open_string shut_string)

set_option maxRecDepth 100000 in
theorem rnew_lifted (os : Os) (started : os.Started) (H : Type) (enc : TypeId × Value → H) :
    ReturnsInHanded {} Try.checked os 4 .any (Rows.fnExactRecNewSpec.pre6 enc Try.prog Try.f4 Rows.fnExactRecNewRow.domain false) (Rows.fnExactRecNewSpec.post enc Try.prog Try.f4 false true false false) := by
  refine returnsInHanded_of_change (C := Try.checked) Try.own started (by kernel_rfl) Try.func4
    (ChangeSpec.witness6 (enc := enc) (C := Try.checked) false ⟨#[], #[.int .i64 0, .int .i64 0], []⟩ 8 (by kernel_rfl) (by kernel_rfl) (by kernel_rfl) (by kernel_rfl)) ?_
  intro W base args ds gs before hval0 hW hcnd _
  have hval : ∀ (j : Nat) t v, Try.f4.params[j]? = some t → args[j]? = some v → Value.okWide Try.prog W .any base t v := hval0
  have hW' := hW
  obtain ⟨p, q, hA0, hV, rfl, hfz, hnd⟩ := hW
  have hA : DataW.TrodAll enc Try.prog W 0 (fun _ => true) true Try.f4.params.toList args.toList ds p := hA0
  rw [Try.params4] at hA hval
  obtain ⟨v0, v1, d0, d1, p0, p1, rfl, rfl, rfl, h0, h1⟩ := trodAll_two hA
  obtain ⟨rfl, rfl⟩ := trodVars_none hV
  obtain ⟨x0, rfl, rfl, rfl, s0⟩ := open_int Try.underlying3 (hval 0 3 v0 rfl rfl) h0
  obtain ⟨x1, rfl, rfl, rfl, s1⟩ := open_int Try.underlying3 (hval 1 3 v1 rfl rfl) h1
  clear hA0 hval0
  simp only [List.append_nil] at hW'
  refine (law_new x0 x1 W).mono fun e W' ⟨he, hb⟩ => ?_
  subst he
  exact ⟨_, rfl, ⟨_, _, _, [], _, [], hW', trodAll_mk1 (shut_bool Try.underlying4 true), trodAll_mk2 (shut_int Try.underlying3 s0) (shut_int Try.underlying3 s1), rfl, hb.frame _, fun h => by cases h⟩⟩

theorem rnew_named : Try.pinned.checked.prog.funcNamed Rows.fnExactRecNewRow.func = some 4 := by kernel_rfl
theorem and_t {a b : Bool} (ha : a = true) (hb : b = true) : (a && b) = true := by rw [ha, hb]; rfl
theorem rnew_c0 : (Rows.fnExactRecNewRow.wf (OpenSpec.ofChange Rows.fnExactRecNewSpec)) = true := by kernel_rfl
theorem rnew_c1 : (laidOutB Try.pinned.checked.prog) = true := by kernel_rfl
theorem rnew_c2 : (mapsRowed Try.pinned.checked.prog) = true := by kernel_rfl
theorem rnew_c3 : (Try.f4.params.all (Try.pinned.checked.prog.readableRec ·)) = true := by kernel_rfl
theorem rnew_c4 : (namedTie Try.pinned.checked.prog Rows.fnExactRecNewRow.named Rows.fnExactRecNewSpec.vars) = true := by kernel_rfl
theorem rnew_c5 : ((Rows.fnExactRecNewRow.stops == [])) = true := by kernel_rfl
theorem rnew_c6 : ((Try.pinned.checked.prog.stops == [])) = true := by kernel_rfl
theorem rnew_c7 : ((Rows.fnExactRecNewRow.knobs == [])) = true := by kernel_rfl
theorem rnew_c8 : ((Try.pinned.checked.prog.stopKnobs == [])) = true := by kernel_rfl
theorem rnew_c9 : ((Rows.fnExactRecNewRow.inPlace == Try.pinned.checked.prog.inPlace 4)) = true := by kernel_rfl
theorem rnew_c10 : ((Rows.fnExactRecNewRow.unfollowed == Try.pinned.checked.prog.unfollowed 4)) = true := by kernel_rfl
theorem rnew_c11 : ((Rows.fnExactRecNewRow.recurses == Try.pinned.checked.prog.recurses 4)) = true := by kernel_rfl
theorem rnew_c12 : ((Rows.fnExactRecNewRow.named == Try.pinned.checked.prog.varsNamed 4)) = true := by kernel_rfl
theorem rnew_c13 : ((Rows.fnExactRecNewRow.maps == (Try.f4.params.toList ++ Rows.fnExactRecNewSpec.plain.varTypes Try.pinned.checked.prog).any (Try.pinned.checked.prog.mapsRec ·))) = true := by kernel_rfl
theorem rnew_c14 : ((Rows.fnExactRecNewRow.ifaces == (Try.f4.params.toList ++ Rows.fnExactRecNewSpec.plain.varTypes Try.pinned.checked.prog).any (Try.pinned.checked.prog.ifacesRec ·))) = true := by kernel_rfl
theorem rnew_c15 : ((Rows.fnExactRecNewRow.mapsOut == Try.pinned.checked.prog.mapsAmong Try.f4.resultTypes.toList)) = true := by kernel_rfl
theorem rnew_c16 : ((Rows.fnExactRecNewRow.loops == (Try.f4.params.toList ++ Rows.fnExactRecNewSpec.plain.varTypes Try.pinned.checked.prog).any (Try.pinned.checked.prog.loopsFrom ·))) = true := by kernel_rfl
theorem rnew_c17 : ((Rows.fnExactRecNewRow.wideKeys == (Try.f4.params.toList ++ Rows.fnExactRecNewSpec.plain.varTypes Try.pinned.checked.prog ++ Try.f4.resultTypes.toList).any (Try.pinned.checked.prog.wideKeysFrom ·))) = true := by kernel_rfl
theorem rnew_c18 : (Rows.fnExactRecNewSpec.vars.all (Try.pinned.checked.prog.varReadable ·)) = true := by kernel_rfl
theorem rnew_c19 : (Try.f4.resultTypes.all (fun t => Try.pinned.checked.prog.readableRec t && decide (t < Try.pinned.checked.prog.types.size))) = true := by kernel_rfl
theorem rnew_c20 : ((Rows.fnExactRecNewRow.ifacesOut == Try.f4.resultTypes.toList.any (Try.pinned.checked.prog.ifacesRec ·))) = true := by kernel_rfl
theorem rnew_c21 : ((Rows.fnExactRecNewRow.loopsOut == Try.f4.resultTypes.toList.any (Try.pinned.checked.prog.loopsFrom ·))) = true := by kernel_rfl
theorem rnew_c22 : ((Rows.fnExactRecNewRow.plainKeys == Try.pinned.checked.prog.plainKeys)) = true := by kernel_rfl
theorem rnew_c23 : (Rows.fnExactRecNewRow.shortTexts.isNone) = true := by kernel_rfl
theorem rnew_c24 : (Try.pinned.checked.prog.stopsHeard) = true := by kernel_rfl
theorem rnew_c25 : (Try.pinned.checked.prog.mayEnter) = true := by kernel_rfl
theorem rnew_c26 : ((Rows.fnExactRecNewRow.lifted == Try.pinned.checked.prog.liftsFinal)) = true := by kernel_rfl
theorem rnew_c27 : ((Try.pinned.checked.prog.make == some Rows.fnExactRecNewRow.make)) = true := by kernel_rfl
theorem rnew_c28 : ((Rows.fnExactRecNewRow.kinds == (if Rows.fnExactRecNewRow.domain.isEmpty then [] else Try.f4.params.toList.map fun t => match Try.pinned.checked.prog.underlying t with | some (.int k) => some k | _ => none))) = true := by kernel_rfl
theorem rnew_c29 : ((Rows.fnExactRecNewRow.pinned == Rows.fnExactRecNewRow.pinnedBy)) = true := by kernel_rfl
theorem rnew_c30 : ((Rows.fnExactRecNewRow.veiled == (Try.f4.params.toList ++ Rows.fnExactRecNewSpec.plain.varTypes Try.pinned.checked.prog ++ Try.f4.resultTypes.toList).any (Try.pinned.checked.prog.veiledRec ·))) = true := by kernel_rfl
theorem rnew_c31 : (Rows.fnExactRecNewRow.veiledFits Try.pinned.checked.prog Try.f4.params.toList (Try.f4.params.toList ++ Rows.fnExactRecNewSpec.plain.varTypes Try.pinned.checked.prog ++ Try.f4.resultTypes.toList)) = true := by kernel_rfl
set_option maxRecDepth 100000 in
theorem rnew_closed : joinedFacts Try.pinned.checked.prog 4 Try.f4 Rows.fnExactRecNewSpec Rows.fnExactRecNewRow = true := and_t (and_t (and_t (and_t (and_t (and_t (and_t (and_t (and_t (and_t (and_t (and_t (and_t (and_t (and_t (and_t (and_t (and_t (and_t (and_t (and_t (and_t (and_t (and_t (and_t (and_t (and_t (and_t (and_t (and_t (and_t rnew_c0 rnew_c1) rnew_c2) rnew_c3) rnew_c4) rnew_c5) rnew_c6) rnew_c7) rnew_c8) rnew_c9) rnew_c10) rnew_c11) rnew_c12) rnew_c13) rnew_c14) rnew_c15) rnew_c16) rnew_c17) rnew_c18) rnew_c19) rnew_c20) rnew_c21) rnew_c22) rnew_c23) rnew_c24) rnew_c25) rnew_c26) rnew_c27) rnew_c28) rnew_c29) rnew_c30) rnew_c31
theorem rnew_inst : Try.f4.isInstance Try.pinned.checked.prog Rows.fnExactRecNewRow.origin Rows.fnExactRecNewRow.targs := of_decide_eq_true (by kernel_rfl)
theorem rnew_wrap : Try.f4.isWrapper Try.pinned.checked.prog Rows.fnExactRecNewRow.wrapper Rows.fnExactRecNewRow.mainSum := by unfold Func.isWrapper; first | (rw [if_pos (by decide +kernel)]; kernel_rfl) | (rw [if_neg (by decide +kernel)]; exact ⟨rfl, rfl⟩)
theorem rnew_holds : Rows.FnExactRecNewSaid :=
  OpenClaim.holds_of_wide 4 Try.f4 rfl rfl rfl rfl rfl rfl rfl ⟨rfl, rfl, rfl, rfl, rfl⟩ rfl rfl rfl rfl rfl rnew_named Try.func4 rnew_closed rnew_inst rnew_wrap
    (fun os started H enc _ => rnew_lifted os started H enc)
end Go.Proofs.Ytdcomaelhpjejaa
