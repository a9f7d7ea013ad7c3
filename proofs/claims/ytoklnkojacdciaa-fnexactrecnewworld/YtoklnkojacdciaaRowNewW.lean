
import Derived.Test.YtoklnkojacdciaaLNewW
import Derived.Test.YtoklnkojacdciaaOpR0
namespace Go.Proofs.Ytoklnkojacdciaa
open Go.ChangeShapes Go.WideShapes Go.ChangeAt Go.RowKit Go.Deep
open Go.ChangeMaps (open_string shut_string)

set_option maxRecDepth 100000 in
theorem rneww_lifted (os : Os) (started : os.Started) (H : Type) (enc : TypeId × Value → H) :
    ReturnsInHanded {} Try.checked os 3 .any (Rows.fnExactRecNewWorldSpec.pre6 enc Try.prog Try.f3 Rows.fnExactRecNewWorldRow.domain false) (Rows.fnExactRecNewWorldSpec.post enc Try.prog Try.f3 false true false false) := by
  refine returnsInHanded_of_change (C := Try.checked) Try.own started (by kernel_rfl) Try.func3
    (ChangeSpec.witness6 (enc := enc) (C := Try.checked) false ⟨#[], #[.int .i64 0], []⟩ 8 (by kernel_rfl) (by kernel_rfl) (by kernel_rfl) (by kernel_rfl)) ?_
  intro W base args ds gs before hval0 hW hcnd _
  have hval : ∀ (j : Nat) t v, Try.f3.params[j]? = some t → args[j]? = some v → Value.okWide Try.prog W .any base t v := hval0
  have hW' := hW
  obtain ⟨p, q, hA0, hV, rfl, hfz, hnd⟩ := hW
  have hA : DataW.TrodAll enc Try.prog W 0 (fun _ => true) true Try.f3.params.toList args.toList ds p := hA0
  rw [Try.params3] at hA hval
  obtain ⟨v0, d0, rfl, rfl, h0⟩ := trodAll_one hA
  obtain ⟨rfl, rfl⟩ := trodVars_none hV
  obtain ⟨x0, rfl, rfl, rfl, s0⟩ := open_int Try.underlying3 (hval 0 3 v0 rfl rfl) h0
  clear hA0 hval0
  simp only [List.append_nil] at hW'
  refine (law_neww x0 W).mono fun e W' ⟨he, hb⟩ => ?_
  subst he
  exact ⟨_, rfl, ⟨_, _, _, [], _, [], hW', trodAll_mk1 (shut_bool Try.underlying4 true), trodAll_mk1 (shut_int Try.underlying3 s0), rfl, hb.frame _, fun h => by cases h⟩⟩

theorem rneww_named : Try.pinned.checked.prog.funcNamed Rows.fnExactRecNewWorldRow.func = some 3 := by kernel_rfl
theorem and_t {a b : Bool} (ha : a = true) (hb : b = true) : (a && b) = true := by rw [ha, hb]; rfl
theorem rneww_c0 : (Rows.fnExactRecNewWorldRow.wf (OpenSpec.ofChange Rows.fnExactRecNewWorldSpec)) = true := by kernel_rfl
theorem rneww_c1 : (laidOutB Try.pinned.checked.prog) = true := by kernel_rfl
theorem rneww_c2 : (mapsRowed Try.pinned.checked.prog) = true := by kernel_rfl
theorem rneww_c3 : (Try.f3.params.all (Try.pinned.checked.prog.readableRec ·)) = true := by kernel_rfl
theorem rneww_c4 : (namedTie Try.pinned.checked.prog Rows.fnExactRecNewWorldRow.named Rows.fnExactRecNewWorldSpec.vars) = true := by kernel_rfl
theorem rneww_c5 : ((Rows.fnExactRecNewWorldRow.stops == [])) = true := by kernel_rfl
theorem rneww_c6 : ((Try.pinned.checked.prog.stops == [])) = true := by kernel_rfl
theorem rneww_c7 : ((Rows.fnExactRecNewWorldRow.knobs == [])) = true := by kernel_rfl
theorem rneww_c8 : ((Try.pinned.checked.prog.stopKnobs == [])) = true := by kernel_rfl
theorem rneww_c9 : ((Rows.fnExactRecNewWorldRow.inPlace == Try.pinned.checked.prog.inPlace 3)) = true := by kernel_rfl
theorem rneww_c10 : ((Rows.fnExactRecNewWorldRow.unfollowed == Try.pinned.checked.prog.unfollowed 3)) = true := by kernel_rfl
theorem rneww_c11 : ((Rows.fnExactRecNewWorldRow.recurses == Try.pinned.checked.prog.recurses 3)) = true := by kernel_rfl
theorem rneww_c12 : ((Rows.fnExactRecNewWorldRow.named == Try.pinned.checked.prog.varsNamed 3)) = true := by kernel_rfl
theorem rneww_c13 : ((Rows.fnExactRecNewWorldRow.maps == (Try.f3.params.toList ++ Rows.fnExactRecNewWorldSpec.plain.varTypes Try.pinned.checked.prog).any (Try.pinned.checked.prog.mapsRec ·))) = true := by kernel_rfl
theorem rneww_c14 : ((Rows.fnExactRecNewWorldRow.ifaces == (Try.f3.params.toList ++ Rows.fnExactRecNewWorldSpec.plain.varTypes Try.pinned.checked.prog).any (Try.pinned.checked.prog.ifacesRec ·))) = true := by kernel_rfl
theorem rneww_c15 : ((Rows.fnExactRecNewWorldRow.mapsOut == Try.pinned.checked.prog.mapsAmong Try.f3.resultTypes.toList)) = true := by kernel_rfl
theorem rneww_c16 : ((Rows.fnExactRecNewWorldRow.loops == (Try.f3.params.toList ++ Rows.fnExactRecNewWorldSpec.plain.varTypes Try.pinned.checked.prog).any (Try.pinned.checked.prog.loopsFrom ·))) = true := by kernel_rfl
theorem rneww_c17 : ((Rows.fnExactRecNewWorldRow.wideKeys == (Try.f3.params.toList ++ Rows.fnExactRecNewWorldSpec.plain.varTypes Try.pinned.checked.prog ++ Try.f3.resultTypes.toList).any (Try.pinned.checked.prog.wideKeysFrom ·))) = true := by kernel_rfl
theorem rneww_c18 : (Rows.fnExactRecNewWorldSpec.vars.all (Try.pinned.checked.prog.varReadable ·)) = true := by kernel_rfl
theorem rneww_c19 : (Try.f3.resultTypes.all (fun t => Try.pinned.checked.prog.readableRec t && decide (t < Try.pinned.checked.prog.types.size))) = true := by kernel_rfl
theorem rneww_c20 : ((Rows.fnExactRecNewWorldRow.ifacesOut == Try.f3.resultTypes.toList.any (Try.pinned.checked.prog.ifacesRec ·))) = true := by kernel_rfl
theorem rneww_c21 : ((Rows.fnExactRecNewWorldRow.loopsOut == Try.f3.resultTypes.toList.any (Try.pinned.checked.prog.loopsFrom ·))) = true := by kernel_rfl
theorem rneww_c22 : ((Rows.fnExactRecNewWorldRow.plainKeys == Try.pinned.checked.prog.plainKeys)) = true := by kernel_rfl
theorem rneww_c23 : (Rows.fnExactRecNewWorldRow.shortTexts.isNone) = true := by kernel_rfl
theorem rneww_c24 : (Try.pinned.checked.prog.stopsHeard) = true := by kernel_rfl
theorem rneww_c25 : (Try.pinned.checked.prog.mayEnter) = true := by kernel_rfl
theorem rneww_c26 : ((Rows.fnExactRecNewWorldRow.lifted == Try.pinned.checked.prog.liftsFinal)) = true := by kernel_rfl
theorem rneww_c27 : ((Try.pinned.checked.prog.make == some Rows.fnExactRecNewWorldRow.make)) = true := by kernel_rfl
theorem rneww_c28 : ((Rows.fnExactRecNewWorldRow.kinds == (if Rows.fnExactRecNewWorldRow.domain.isEmpty then [] else Try.f3.params.toList.map fun t => match Try.pinned.checked.prog.underlying t with | some (.int k) => some k | _ => none))) = true := by kernel_rfl
theorem rneww_c29 : ((Rows.fnExactRecNewWorldRow.pinned == Rows.fnExactRecNewWorldRow.pinnedBy)) = true := by kernel_rfl
theorem rneww_c30 : ((Rows.fnExactRecNewWorldRow.veiled == (Try.f3.params.toList ++ Rows.fnExactRecNewWorldSpec.plain.varTypes Try.pinned.checked.prog ++ Try.f3.resultTypes.toList).any (Try.pinned.checked.prog.veiledRec ·))) = true := by kernel_rfl
theorem rneww_c31 : (Rows.fnExactRecNewWorldRow.veiledFits Try.pinned.checked.prog Try.f3.params.toList (Try.f3.params.toList ++ Rows.fnExactRecNewWorldSpec.plain.varTypes Try.pinned.checked.prog ++ Try.f3.resultTypes.toList)) = true := by kernel_rfl
set_option maxRecDepth 100000 in
theorem rneww_closed : joinedFacts Try.pinned.checked.prog 3 Try.f3 Rows.fnExactRecNewWorldSpec Rows.fnExactRecNewWorldRow = true := and_t (and_t (and_t (and_t (and_t (and_t (and_t (and_t (and_t (and_t (and_t (and_t (and_t (and_t (and_t (and_t (and_t (and_t (and_t (and_t (and_t (and_t (and_t (and_t (and_t (and_t (and_t (and_t (and_t (and_t (and_t rneww_c0 rneww_c1) rneww_c2) rneww_c3) rneww_c4) rneww_c5) rneww_c6) rneww_c7) rneww_c8) rneww_c9) rneww_c10) rneww_c11) rneww_c12) rneww_c13) rneww_c14) rneww_c15) rneww_c16) rneww_c17) rneww_c18) rneww_c19) rneww_c20) rneww_c21) rneww_c22) rneww_c23) rneww_c24) rneww_c25) rneww_c26) rneww_c27) rneww_c28) rneww_c29) rneww_c30) rneww_c31
theorem rneww_inst : Try.f3.isInstance Try.pinned.checked.prog Rows.fnExactRecNewWorldRow.origin Rows.fnExactRecNewWorldRow.targs := of_decide_eq_true (by kernel_rfl)
theorem rneww_wrap : Try.f3.isWrapper Try.pinned.checked.prog Rows.fnExactRecNewWorldRow.wrapper Rows.fnExactRecNewWorldRow.mainSum := by unfold Func.isWrapper; first | (rw [if_pos (by decide +kernel)]; kernel_rfl) | (rw [if_neg (by decide +kernel)]; exact ⟨rfl, rfl⟩)
theorem rneww_holds : Rows.FnExactRecNewWorldSaid :=
  OpenClaim.holds_of_wide 3 Try.f3 rfl rfl rfl rfl rfl rfl rfl ⟨rfl, rfl, rfl, rfl, rfl⟩ rfl rfl rfl rfl rfl rneww_named Try.func3 rneww_closed rneww_inst rneww_wrap
    (fun os started H enc _ => rneww_lifted os started H enc)
end Go.Proofs.Ytoklnkojacdciaa
