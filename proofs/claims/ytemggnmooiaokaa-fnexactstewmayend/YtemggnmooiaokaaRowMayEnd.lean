
import Derived.Test.YtemggnmooiaokaaLMayEnd
import Derived.Test.YtemggnmooiaokaaOpS
namespace Go.Proofs.Ytemggnmooiaokaa
open Go.ChangeShapes Go.WideShapes Go.ChangeAt Go.RowKit Go.Deep
open Go.ChangeMaps (open_string shut_string)

set_option maxRecDepth 100000 in
theorem mayend_lifted (os : Os) (started : os.Started) (H : Type) (enc : TypeId × Value → H) :
    ReturnsInHanded {} Try.checked os 5 .any (Rows.fnExactStewMayEndSpec.pre6 enc Try.prog Try.f5 Rows.fnExactStewMayEndRow.domain false) (Rows.fnExactStewMayEndSpec.post enc Try.prog Try.f5 false true false false) := by
  refine returnsInHanded_of_change (C := Try.checked) Try.own started (by kernel_rfl) Try.func5
    (ChangeSpec.witness6 (enc := enc) (C := Try.checked) false ⟨#[], #[.agg #[.int .i64 0, .slice none 0 0, .slice none 0 0, .slice none 0 0], .string .empty, .int .i64 0], []⟩ 8 (by kernel_rfl) (by kernel_rfl) (by kernel_rfl) (by kernel_rfl)) ?_
  intro W base args ds gs before hval0 hW hcnd _
  have hval : ∀ (j : Nat) t v, Try.f5.params[j]? = some t → args[j]? = some v → Value.okWide Try.prog W .any base t v := hval0
  have hW' := hW
  obtain ⟨p, q, hA0, hV, rfl, hfz, hnd⟩ := hW
  have hA : DataW.TrodAll enc Try.prog W 0 (fun _ => true) true Try.f5.params.toList args.toList ds p := hA0
  rw [Try.params5] at hA hval
  obtain ⟨v0, v1, v2, d0, d1, d2, p0, p1, p2, rfl, rfl, rfl, h0, h1, h2⟩ := trodAll_three hA
  obtain ⟨rfl, rfl⟩ := trodVars_none hV
  have h0k := h0
  obtain ⟨x1, rfl, rfl, rfl, s1⟩ := open_string Try.underlying9 (hval 1 9 v1 rfl rfl) h1
  obtain ⟨x2, rfl, rfl, rfl, s2⟩ := open_int Try.underlying3 (hval 2 3 v2 rfl rfl) h2
  clear hA0 hval0
  simp only [List.append_nil] at hW'
  have hlt0 : ∀ x ∈ p0, x.block < W.heap.size := fun x hx => by simpa using hW'.lt x (by simp [hx])
  obtain ⟨sv, cv, bv, B, rfl, hB⟩ := open_sbook (hval 0 26 v0 rfl rfl) h0
  refine (law_mayend _ _ _ B x1 x2 W hB s1).mono fun e W' ⟨he, hb⟩ => ?_
  subst he
  have hargs0 := Below.trod Try.laidOut (by kernel_rfl) (of_decide_eq_true (by kernel_rfl)) h0k hb hlt0
  exact ⟨_, rfl, ⟨_, _, _, [], _, [], hW', trodAll_mk1 (shut_bool Try.underlying4 true), trodAll_mk3 hargs0 (shut_string Try.underlying9 s1) (shut_int Try.underlying3 s2), rfl, hb.frame _, fun h => by cases h⟩⟩

theorem mayend_named : Try.pinned.checked.prog.funcNamed Rows.fnExactStewMayEndRow.func = some 5 := by kernel_rfl
theorem and_t {a b : Bool} (ha : a = true) (hb : b = true) : (a && b) = true := by rw [ha, hb]; rfl
theorem mayend_c0 : (Rows.fnExactStewMayEndRow.wf (OpenSpec.ofChange Rows.fnExactStewMayEndSpec)) = true := by kernel_rfl
theorem mayend_c1 : (laidOutB Try.pinned.checked.prog) = true := by kernel_rfl
theorem mayend_c2 : (mapsRowed Try.pinned.checked.prog) = true := by kernel_rfl
theorem mayend_c3 : (Try.f5.params.all (Try.pinned.checked.prog.readableRec ·)) = true := by kernel_rfl
theorem mayend_c4 : (namedTie Try.pinned.checked.prog Rows.fnExactStewMayEndRow.named Rows.fnExactStewMayEndSpec.vars) = true := by kernel_rfl
theorem mayend_c5 : ((Rows.fnExactStewMayEndRow.stops == [])) = true := by kernel_rfl
theorem mayend_c6 : ((Try.pinned.checked.prog.stops == [])) = true := by kernel_rfl
theorem mayend_c7 : ((Rows.fnExactStewMayEndRow.knobs == [])) = true := by kernel_rfl
theorem mayend_c8 : ((Try.pinned.checked.prog.stopKnobs == [])) = true := by kernel_rfl
theorem mayend_c9 : ((Rows.fnExactStewMayEndRow.inPlace == Try.pinned.checked.prog.inPlace 5)) = true := by kernel_rfl
theorem mayend_c10 : ((Rows.fnExactStewMayEndRow.unfollowed == Try.pinned.checked.prog.unfollowed 5)) = true := by kernel_rfl
theorem mayend_c11 : ((Rows.fnExactStewMayEndRow.recurses == Try.pinned.checked.prog.recurses 5)) = true := by kernel_rfl
theorem mayend_c12 : ((Rows.fnExactStewMayEndRow.named == Try.pinned.checked.prog.varsNamed 5)) = true := by kernel_rfl
theorem mayend_c13 : ((Rows.fnExactStewMayEndRow.maps == (Try.f5.params.toList ++ Rows.fnExactStewMayEndSpec.plain.varTypes Try.pinned.checked.prog).any (Try.pinned.checked.prog.mapsRec ·))) = true := by kernel_rfl
theorem mayend_c14 : ((Rows.fnExactStewMayEndRow.ifaces == (Try.f5.params.toList ++ Rows.fnExactStewMayEndSpec.plain.varTypes Try.pinned.checked.prog).any (Try.pinned.checked.prog.ifacesRec ·))) = true := by kernel_rfl
theorem mayend_c15 : ((Rows.fnExactStewMayEndRow.mapsOut == Try.pinned.checked.prog.mapsAmong Try.f5.resultTypes.toList)) = true := by kernel_rfl
theorem mayend_c16 : ((Rows.fnExactStewMayEndRow.loops == (Try.f5.params.toList ++ Rows.fnExactStewMayEndSpec.plain.varTypes Try.pinned.checked.prog).any (Try.pinned.checked.prog.loopsFrom ·))) = true := by kernel_rfl
theorem mayend_c17 : ((Rows.fnExactStewMayEndRow.wideKeys == (Try.f5.params.toList ++ Rows.fnExactStewMayEndSpec.plain.varTypes Try.pinned.checked.prog ++ Try.f5.resultTypes.toList).any (Try.pinned.checked.prog.wideKeysFrom ·))) = true := by kernel_rfl
theorem mayend_c18 : (Rows.fnExactStewMayEndSpec.vars.all (Try.pinned.checked.prog.varReadable ·)) = true := by kernel_rfl
theorem mayend_c19 : (Try.f5.resultTypes.all (fun t => Try.pinned.checked.prog.readableRec t && decide (t < Try.pinned.checked.prog.types.size))) = true := by kernel_rfl
theorem mayend_c20 : ((Rows.fnExactStewMayEndRow.ifacesOut == Try.f5.resultTypes.toList.any (Try.pinned.checked.prog.ifacesRec ·))) = true := by kernel_rfl
theorem mayend_c21 : ((Rows.fnExactStewMayEndRow.loopsOut == Try.f5.resultTypes.toList.any (Try.pinned.checked.prog.loopsFrom ·))) = true := by kernel_rfl
theorem mayend_c22 : ((Rows.fnExactStewMayEndRow.plainKeys == Try.pinned.checked.prog.plainKeys)) = true := by kernel_rfl
theorem mayend_c23 : (Rows.fnExactStewMayEndRow.shortTexts.isNone) = true := by kernel_rfl
theorem mayend_c24 : (Try.pinned.checked.prog.stopsHeard) = true := by kernel_rfl
theorem mayend_c25 : (Try.pinned.checked.prog.mayEnter) = true := by kernel_rfl
theorem mayend_c26 : ((Rows.fnExactStewMayEndRow.lifted == Try.pinned.checked.prog.liftsFinal)) = true := by kernel_rfl
theorem mayend_c27 : ((Try.pinned.checked.prog.make == some Rows.fnExactStewMayEndRow.make)) = true := by kernel_rfl
theorem mayend_c28 : ((Rows.fnExactStewMayEndRow.kinds == (if Rows.fnExactStewMayEndRow.domain.isEmpty then [] else Try.f5.params.toList.map fun t => match Try.pinned.checked.prog.underlying t with | some (.int k) => some k | _ => none))) = true := by kernel_rfl
theorem mayend_c29 : ((Rows.fnExactStewMayEndRow.pinned == Rows.fnExactStewMayEndRow.pinnedBy)) = true := by kernel_rfl
theorem mayend_c30 : ((Rows.fnExactStewMayEndRow.veiled == (Try.f5.params.toList ++ Rows.fnExactStewMayEndSpec.plain.varTypes Try.pinned.checked.prog ++ Try.f5.resultTypes.toList).any (Try.pinned.checked.prog.veiledRec ·))) = true := by kernel_rfl
theorem mayend_c31 : (Rows.fnExactStewMayEndRow.veiledFits Try.pinned.checked.prog Try.f5.params.toList (Try.f5.params.toList ++ Rows.fnExactStewMayEndSpec.plain.varTypes Try.pinned.checked.prog ++ Try.f5.resultTypes.toList)) = true := by kernel_rfl
set_option maxRecDepth 100000 in
theorem mayend_closed : joinedFacts Try.pinned.checked.prog 5 Try.f5 Rows.fnExactStewMayEndSpec Rows.fnExactStewMayEndRow = true := and_t (and_t (and_t (and_t (and_t (and_t (and_t (and_t (and_t (and_t (and_t (and_t (and_t (and_t (and_t (and_t (and_t (and_t (and_t (and_t (and_t (and_t (and_t (and_t (and_t (and_t (and_t (and_t (and_t (and_t (and_t mayend_c0 mayend_c1) mayend_c2) mayend_c3) mayend_c4) mayend_c5) mayend_c6) mayend_c7) mayend_c8) mayend_c9) mayend_c10) mayend_c11) mayend_c12) mayend_c13) mayend_c14) mayend_c15) mayend_c16) mayend_c17) mayend_c18) mayend_c19) mayend_c20) mayend_c21) mayend_c22) mayend_c23) mayend_c24) mayend_c25) mayend_c26) mayend_c27) mayend_c28) mayend_c29) mayend_c30) mayend_c31
theorem mayend_inst : Try.f5.isInstance Try.pinned.checked.prog Rows.fnExactStewMayEndRow.origin Rows.fnExactStewMayEndRow.targs := of_decide_eq_true (by kernel_rfl)
theorem mayend_wrap : Try.f5.isWrapper Try.pinned.checked.prog Rows.fnExactStewMayEndRow.wrapper Rows.fnExactStewMayEndRow.mainSum := by unfold Func.isWrapper; first | (rw [if_pos (by decide +kernel)]; kernel_rfl) | (rw [if_neg (by decide +kernel)]; exact ⟨rfl, rfl⟩)
theorem mayend_holds : Rows.FnExactStewMayEndSaid :=
  OpenClaim.holds_of_wide 5 Try.f5 rfl rfl rfl rfl rfl rfl rfl ⟨rfl, rfl, rfl, rfl, rfl⟩ rfl rfl rfl rfl rfl mayend_named Try.func5 mayend_closed mayend_inst mayend_wrap
    (fun os started H enc _ => mayend_lifted os started H enc)
end Go.Proofs.Ytemggnmooiaokaa
