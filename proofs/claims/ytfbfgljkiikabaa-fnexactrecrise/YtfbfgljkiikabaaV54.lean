import Derived.Test.YtfbfgljkiikabaaV53
namespace Go.Proofs.Ytfbfgljkiikabaa
open Go.ChangeShapes Go.WideShapes Go.ChangeAt Go.RowKit Go.Deep
open Go.ChangeMaps (open_string shut_string)

set_option maxRecDepth 100000 in
theorem rfall_lifted (os : Os) (started : os.Started) (H : Type) (enc : TypeId × Value → H) :
    ReturnsInHanded {} Try.checked os 4 .any (Rows.fnExactRecFallSpec.pre6 enc Try.prog Try.f4 Rows.fnExactRecFallRow.domain false) (Rows.fnExactRecFallSpec.post enc Try.prog Try.f4 false true false false) := by
  refine returnsInHanded_of_change (C := Try.checked) Try.own started (by kernel_rfl) Try.func4
    (ChangeSpec.witness6 (enc := enc) (C := Try.checked) false ⟨#[], #[.agg #[.int .i64 0, .int .i64 0, .bool false, .int .i64 0, .int .i64 0, .slice none 0 0, .int .i64 0, .int .i64 0, .slice none 0 0, .slice none 0 0, .slice none 0 0, .bool false, .bool false, .int .i64 0, .slice none 0 0, .slice none 0 0, .slice none 0 0, .int .i64 0]], []⟩ 8 (by kernel_rfl) (by kernel_rfl) (by kernel_rfl) (by kernel_rfl)) ?_
  intro W base args ds gs before hval0 hW hcnd _
  have hval : ∀ (j : Nat) t v, Try.f4.params[j]? = some t → args[j]? = some v → Value.okWide Try.prog W .any base t v := hval0
  have hW' := hW
  obtain ⟨p, q, hA0, hV, rfl, hfz, hnd⟩ := hW
  have hA : DataW.TrodAll enc Try.prog W 0 (fun _ => true) true Try.f4.params.toList args.toList ds p := hA0
  rw [Try.params4] at hA hval
  obtain ⟨v0, d0, rfl, rfl, h0⟩ := trodAll_one hA
  obtain ⟨rfl, rfl⟩ := trodVars_none hV
  have h0k := h0
  clear hA0 hval0
  simp only [List.append_nil] at hW'
  have hlt0 : ∀ x ∈ p, x.block < W.heap.size := fun x hx => by simpa using hW'.lt x (by simp [hx])
  obtain ⟨cs, U, rfl, hU⟩ := open_Rr (hval 0 32 v0 rfl rfl) h0
  refine (law_fall cs U (fallU U) W hU (fun hn => ⟨fall_small hn, fun cs w h => specFall_any cs U w h hn⟩) (fun hn cs w h => implFall_any cs U w h hn)).mono fun e W' ⟨he, hb⟩ => ?_
  subst he
  have hargs0 := Below.trod Try.laidOut (by kernel_rfl) (of_decide_eq_true (by kernel_rfl)) h0k hb hlt0
  exact ⟨_, rfl, ⟨_, _, _, [], _, [], hW', trodAll_mk1 (shut_bool Try.underlying4 true), trodAll_mk1 hargs0, rfl, hb.frame _, fun h => by cases h⟩⟩

theorem rfall_named : Try.pinned.checked.prog.funcNamed Rows.fnExactRecFallRow.func = some 4 := by kernel_rfl
theorem and_t {a b : Bool} (ha : a = true) (hb : b = true) : (a && b) = true := by rw [ha, hb]; rfl
theorem rfall_c0 : (Rows.fnExactRecFallRow.wf (OpenSpec.ofChange Rows.fnExactRecFallSpec)) = true := by kernel_rfl
theorem rfall_c1 : (laidOutB Try.pinned.checked.prog) = true := by kernel_rfl
theorem rfall_c2 : (mapsRowed Try.pinned.checked.prog) = true := by kernel_rfl
theorem rfall_c3 : (Try.f4.params.all (Try.pinned.checked.prog.readableRec ·)) = true := by kernel_rfl
theorem rfall_c4 : (namedTie Try.pinned.checked.prog Rows.fnExactRecFallRow.named Rows.fnExactRecFallSpec.vars) = true := by kernel_rfl
theorem rfall_c5 : ((Rows.fnExactRecFallRow.stops == [])) = true := by kernel_rfl
theorem rfall_c6 : ((Try.pinned.checked.prog.stops == [])) = true := by kernel_rfl
theorem rfall_c7 : ((Rows.fnExactRecFallRow.knobs == [])) = true := by kernel_rfl
theorem rfall_c8 : ((Try.pinned.checked.prog.stopKnobs == [])) = true := by kernel_rfl
theorem rfall_c9 : ((Rows.fnExactRecFallRow.inPlace == Try.pinned.checked.prog.inPlace 4)) = true := by kernel_rfl
theorem rfall_c10 : ((Rows.fnExactRecFallRow.unfollowed == Try.pinned.checked.prog.unfollowed 4)) = true := by kernel_rfl
theorem rfall_c11 : ((Rows.fnExactRecFallRow.recurses == Try.pinned.checked.prog.recurses 4)) = true := by kernel_rfl
theorem rfall_c12 : ((Rows.fnExactRecFallRow.named == Try.pinned.checked.prog.varsNamed 4)) = true := by kernel_rfl
theorem rfall_c13 : ((Rows.fnExactRecFallRow.maps == (Try.f4.params.toList ++ Rows.fnExactRecFallSpec.plain.varTypes Try.pinned.checked.prog).any (Try.pinned.checked.prog.mapsRec ·))) = true := by kernel_rfl
theorem rfall_c14 : ((Rows.fnExactRecFallRow.ifaces == (Try.f4.params.toList ++ Rows.fnExactRecFallSpec.plain.varTypes Try.pinned.checked.prog).any (Try.pinned.checked.prog.ifacesRec ·))) = true := by kernel_rfl
theorem rfall_c15 : ((Rows.fnExactRecFallRow.mapsOut == Try.pinned.checked.prog.mapsAmong Try.f4.resultTypes.toList)) = true := by kernel_rfl
theorem rfall_c16 : ((Rows.fnExactRecFallRow.loops == (Try.f4.params.toList ++ Rows.fnExactRecFallSpec.plain.varTypes Try.pinned.checked.prog).any (Try.pinned.checked.prog.loopsFrom ·))) = true := by kernel_rfl
theorem rfall_c17 : ((Rows.fnExactRecFallRow.wideKeys == (Try.f4.params.toList ++ Rows.fnExactRecFallSpec.plain.varTypes Try.pinned.checked.prog ++ Try.f4.resultTypes.toList).any (Try.pinned.checked.prog.wideKeysFrom ·))) = true := by kernel_rfl
theorem rfall_c18 : (Rows.fnExactRecFallSpec.vars.all (Try.pinned.checked.prog.varReadable ·)) = true := by kernel_rfl
theorem rfall_c19 : (Try.f4.resultTypes.all (fun t => Try.pinned.checked.prog.readableRec t && decide (t < Try.pinned.checked.prog.types.size))) = true := by kernel_rfl
theorem rfall_c20 : ((Rows.fnExactRecFallRow.ifacesOut == Try.f4.resultTypes.toList.any (Try.pinned.checked.prog.ifacesRec ·))) = true := by kernel_rfl
theorem rfall_c21 : ((Rows.fnExactRecFallRow.loopsOut == Try.f4.resultTypes.toList.any (Try.pinned.checked.prog.loopsFrom ·))) = true := by kernel_rfl
theorem rfall_c22 : ((Rows.fnExactRecFallRow.plainKeys == Try.pinned.checked.prog.plainKeys)) = true := by kernel_rfl
theorem rfall_c23 : (Rows.fnExactRecFallRow.shortTexts.isNone) = true := by kernel_rfl
theorem rfall_c24 : (Try.pinned.checked.prog.stopsHeard) = true := by kernel_rfl
theorem rfall_c25 : (Try.pinned.checked.prog.mayEnter) = true := by kernel_rfl
theorem rfall_c26 : ((Rows.fnExactRecFallRow.lifted == Try.pinned.checked.prog.liftsFinal)) = true := by kernel_rfl
theorem rfall_c27 : ((Try.pinned.checked.prog.make == some Rows.fnExactRecFallRow.make)) = true := by kernel_rfl
theorem rfall_c28 : ((Rows.fnExactRecFallRow.kinds == (if Rows.fnExactRecFallRow.domain.isEmpty then [] else Try.f4.params.toList.map fun t => match Try.pinned.checked.prog.underlying t with | some (.int k) => some k | _ => none))) = true := by kernel_rfl
theorem rfall_c29 : ((Rows.fnExactRecFallRow.pinned == Rows.fnExactRecFallRow.pinnedBy)) = true := by kernel_rfl
theorem rfall_c30 : ((Rows.fnExactRecFallRow.veiled == (Try.f4.params.toList ++ Rows.fnExactRecFallSpec.plain.varTypes Try.pinned.checked.prog ++ Try.f4.resultTypes.toList).any (Try.pinned.checked.prog.veiledRec ·))) = true := by kernel_rfl
theorem rfall_c31 : (Rows.fnExactRecFallRow.veiledFits Try.pinned.checked.prog Try.f4.params.toList (Try.f4.params.toList ++ Rows.fnExactRecFallSpec.plain.varTypes Try.pinned.checked.prog ++ Try.f4.resultTypes.toList)) = true := by kernel_rfl
set_option maxRecDepth 100000 in
theorem rfall_closed : joinedFacts Try.pinned.checked.prog 4 Try.f4 Rows.fnExactRecFallSpec Rows.fnExactRecFallRow = true := and_t (and_t (and_t (and_t (and_t (and_t (and_t (and_t (and_t (and_t (and_t (and_t (and_t (and_t (and_t (and_t (and_t (and_t (and_t (and_t (and_t (and_t (and_t (and_t (and_t (and_t (and_t (and_t (and_t (and_t (and_t rfall_c0 rfall_c1) rfall_c2) rfall_c3) rfall_c4) rfall_c5) rfall_c6) rfall_c7) rfall_c8) rfall_c9) rfall_c10) rfall_c11) rfall_c12) rfall_c13) rfall_c14) rfall_c15) rfall_c16) rfall_c17) rfall_c18) rfall_c19) rfall_c20) rfall_c21) rfall_c22) rfall_c23) rfall_c24) rfall_c25) rfall_c26) rfall_c27) rfall_c28) rfall_c29) rfall_c30) rfall_c31
theorem rfall_inst : Try.f4.isInstance Try.pinned.checked.prog Rows.fnExactRecFallRow.origin Rows.fnExactRecFallRow.targs := of_decide_eq_true (by kernel_rfl)
theorem rfall_wrap : Try.f4.isWrapper Try.pinned.checked.prog Rows.fnExactRecFallRow.wrapper Rows.fnExactRecFallRow.mainSum := by unfold Func.isWrapper; first | (rw [if_pos (by decide +kernel)]; kernel_rfl) | (rw [if_neg (by decide +kernel)]; exact ⟨rfl, rfl⟩)
theorem rfall_holds : Rows.FnExactRecFallSaid :=
  OpenClaim.holds_of_wide 4 Try.f4 rfl rfl rfl rfl rfl rfl rfl ⟨rfl, rfl, rfl, rfl, rfl⟩ rfl rfl rfl rfl rfl rfall_named Try.func4 rfall_closed rfall_inst rfall_wrap
    (fun os started H enc _ => rfall_lifted os started H enc)

set_option maxRecDepth 100000 in
theorem rrise_lifted (os : Os) (started : os.Started) (H : Type) (enc : TypeId × Value → H) :
    ReturnsInHanded {} Try.checked os 5 .any (Rows.fnExactRecRiseSpec.pre6 enc Try.prog Try.f5 Rows.fnExactRecRiseRow.domain false) (Rows.fnExactRecRiseSpec.post enc Try.prog Try.f5 false true false false) := by
  refine returnsInHanded_of_change (C := Try.checked) Try.own started (by kernel_rfl) Try.func5
    (ChangeSpec.witness6 (enc := enc) (C := Try.checked) false ⟨#[], #[.agg #[.int .i64 0, .int .i64 0, .bool false, .int .i64 0, .int .i64 0, .slice none 0 0, .int .i64 0, .int .i64 0, .slice none 0 0, .slice none 0 0, .slice none 0 0, .bool false, .bool false, .int .i64 0, .slice none 0 0, .slice none 0 0, .slice none 0 0, .int .i64 0]], []⟩ 8 (by kernel_rfl) (by kernel_rfl) (by kernel_rfl) (by kernel_rfl)) ?_
  intro W base args ds gs before hval0 hW hcnd _
  have hval : ∀ (j : Nat) t v, Try.f5.params[j]? = some t → args[j]? = some v → Value.okWide Try.prog W .any base t v := hval0
  have hW' := hW
  obtain ⟨p, q, hA0, hV, rfl, hfz, hnd⟩ := hW
  have hA : DataW.TrodAll enc Try.prog W 0 (fun _ => true) true Try.f5.params.toList args.toList ds p := hA0
  rw [Try.params5] at hA hval
  obtain ⟨v0, d0, rfl, rfl, h0⟩ := trodAll_one hA
  obtain ⟨rfl, rfl⟩ := trodVars_none hV
  have h0k := h0
  clear hA0 hval0
  simp only [List.append_nil] at hW'
  have hlt0 : ∀ x ∈ p, x.block < W.heap.size := fun x hx => by simpa using hW'.lt x (by simp [hx])
  obtain ⟨cs, U, rfl, hU⟩ := open_Rr (hval 0 32 v0 rfl rfl) h0
  refine (law_rise cs U (riseU U) W hU (fun hn => ⟨rise_small hn, fun cs w h => specRise_any cs U w h hn⟩) (fun hn cs w h => implRise_any cs U w h hn)).mono fun e W' ⟨he, hb⟩ => ?_
  subst he
  have hargs0 := Below.trod Try.laidOut (by kernel_rfl) (of_decide_eq_true (by kernel_rfl)) h0k hb hlt0
  exact ⟨_, rfl, ⟨_, _, _, [], _, [], hW', trodAll_mk1 (shut_bool Try.underlying4 true), trodAll_mk1 hargs0, rfl, hb.frame _, fun h => by cases h⟩⟩

theorem rrise_named : Try.pinned.checked.prog.funcNamed Rows.fnExactRecRiseRow.func = some 5 := by kernel_rfl
theorem rrise_c0 : (Rows.fnExactRecRiseRow.wf (OpenSpec.ofChange Rows.fnExactRecRiseSpec)) = true := by kernel_rfl
theorem rrise_c1 : (laidOutB Try.pinned.checked.prog) = true := by kernel_rfl
theorem rrise_c2 : (mapsRowed Try.pinned.checked.prog) = true := by kernel_rfl
theorem rrise_c3 : (Try.f5.params.all (Try.pinned.checked.prog.readableRec ·)) = true := by kernel_rfl
theorem rrise_c4 : (namedTie Try.pinned.checked.prog Rows.fnExactRecRiseRow.named Rows.fnExactRecRiseSpec.vars) = true := by kernel_rfl
theorem rrise_c5 : ((Rows.fnExactRecRiseRow.stops == [])) = true := by kernel_rfl
theorem rrise_c6 : ((Try.pinned.checked.prog.stops == [])) = true := by kernel_rfl
theorem rrise_c7 : ((Rows.fnExactRecRiseRow.knobs == [])) = true := by kernel_rfl
theorem rrise_c8 : ((Try.pinned.checked.prog.stopKnobs == [])) = true := by kernel_rfl
theorem rrise_c9 : ((Rows.fnExactRecRiseRow.inPlace == Try.pinned.checked.prog.inPlace 5)) = true := by kernel_rfl
theorem rrise_c10 : ((Rows.fnExactRecRiseRow.unfollowed == Try.pinned.checked.prog.unfollowed 5)) = true := by kernel_rfl
theorem rrise_c11 : ((Rows.fnExactRecRiseRow.recurses == Try.pinned.checked.prog.recurses 5)) = true := by kernel_rfl
theorem rrise_c12 : ((Rows.fnExactRecRiseRow.named == Try.pinned.checked.prog.varsNamed 5)) = true := by kernel_rfl
theorem rrise_c13 : ((Rows.fnExactRecRiseRow.maps == (Try.f5.params.toList ++ Rows.fnExactRecRiseSpec.plain.varTypes Try.pinned.checked.prog).any (Try.pinned.checked.prog.mapsRec ·))) = true := by kernel_rfl
theorem rrise_c14 : ((Rows.fnExactRecRiseRow.ifaces == (Try.f5.params.toList ++ Rows.fnExactRecRiseSpec.plain.varTypes Try.pinned.checked.prog).any (Try.pinned.checked.prog.ifacesRec ·))) = true := by kernel_rfl
theorem rrise_c15 : ((Rows.fnExactRecRiseRow.mapsOut == Try.pinned.checked.prog.mapsAmong Try.f5.resultTypes.toList)) = true := by kernel_rfl
theorem rrise_c16 : ((Rows.fnExactRecRiseRow.loops == (Try.f5.params.toList ++ Rows.fnExactRecRiseSpec.plain.varTypes Try.pinned.checked.prog).any (Try.pinned.checked.prog.loopsFrom ·))) = true := by kernel_rfl
theorem rrise_c17 : ((Rows.fnExactRecRiseRow.wideKeys == (Try.f5.params.toList ++ Rows.fnExactRecRiseSpec.plain.varTypes Try.pinned.checked.prog ++ Try.f5.resultTypes.toList).any (Try.pinned.checked.prog.wideKeysFrom ·))) = true := by kernel_rfl
theorem rrise_c18 : (Rows.fnExactRecRiseSpec.vars.all (Try.pinned.checked.prog.varReadable ·)) = true := by kernel_rfl
theorem rrise_c19 : (Try.f5.resultTypes.all (fun t => Try.pinned.checked.prog.readableRec t && decide (t < Try.pinned.checked.prog.types.size))) = true := by kernel_rfl
theorem rrise_c20 : ((Rows.fnExactRecRiseRow.ifacesOut == Try.f5.resultTypes.toList.any (Try.pinned.checked.prog.ifacesRec ·))) = true := by kernel_rfl
theorem rrise_c21 : ((Rows.fnExactRecRiseRow.loopsOut == Try.f5.resultTypes.toList.any (Try.pinned.checked.prog.loopsFrom ·))) = true := by kernel_rfl
theorem rrise_c22 : ((Rows.fnExactRecRiseRow.plainKeys == Try.pinned.checked.prog.plainKeys)) = true := by kernel_rfl
theorem rrise_c23 : (Rows.fnExactRecRiseRow.shortTexts.isNone) = true := by kernel_rfl
theorem rrise_c24 : (Try.pinned.checked.prog.stopsHeard) = true := by kernel_rfl
theorem rrise_c25 : (Try.pinned.checked.prog.mayEnter) = true := by kernel_rfl
theorem rrise_c26 : ((Rows.fnExactRecRiseRow.lifted == Try.pinned.checked.prog.liftsFinal)) = true := by kernel_rfl
theorem rrise_c27 : ((Try.pinned.checked.prog.make == some Rows.fnExactRecRiseRow.make)) = true := by kernel_rfl
theorem rrise_c28 : ((Rows.fnExactRecRiseRow.kinds == (if Rows.fnExactRecRiseRow.domain.isEmpty then [] else Try.f5.params.toList.map fun t => match Try.pinned.checked.prog.underlying t with | some (.int k) => some k | _ => none))) = true := by kernel_rfl
theorem rrise_c29 : ((Rows.fnExactRecRiseRow.pinned == Rows.fnExactRecRiseRow.pinnedBy)) = true := by kernel_rfl
theorem rrise_c30 : ((Rows.fnExactRecRiseRow.veiled == (Try.f5.params.toList ++ Rows.fnExactRecRiseSpec.plain.varTypes Try.pinned.checked.prog ++ Try.f5.resultTypes.toList).any (Try.pinned.checked.prog.veiledRec ·))) = true := by kernel_rfl
theorem rrise_c31 : (Rows.fnExactRecRiseRow.veiledFits Try.pinned.checked.prog Try.f5.params.toList (Try.f5.params.toList ++ Rows.fnExactRecRiseSpec.plain.varTypes Try.pinned.checked.prog ++ Try.f5.resultTypes.toList)) = true := by kernel_rfl
set_option maxRecDepth 100000 in
theorem rrise_closed : joinedFacts Try.pinned.checked.prog 5 Try.f5 Rows.fnExactRecRiseSpec Rows.fnExactRecRiseRow = true := and_t (and_t (and_t (and_t (and_t (and_t (and_t (and_t (and_t (and_t (and_t (and_t (and_t (and_t (and_t (and_t (and_t (and_t (and_t (and_t (and_t (and_t (and_t (and_t (and_t (and_t (and_t (and_t (and_t (and_t (and_t rrise_c0 rrise_c1) rrise_c2) rrise_c3) rrise_c4) rrise_c5) rrise_c6) rrise_c7) rrise_c8) rrise_c9) rrise_c10) rrise_c11) rrise_c12) rrise_c13) rrise_c14) rrise_c15) rrise_c16) rrise_c17) rrise_c18) rrise_c19) rrise_c20) rrise_c21) rrise_c22) rrise_c23) rrise_c24) rrise_c25) rrise_c26) rrise_c27) rrise_c28) rrise_c29) rrise_c30) rrise_c31
theorem rrise_inst : Try.f5.isInstance Try.pinned.checked.prog Rows.fnExactRecRiseRow.origin Rows.fnExactRecRiseRow.targs := of_decide_eq_true (by kernel_rfl)
theorem rrise_wrap : Try.f5.isWrapper Try.pinned.checked.prog Rows.fnExactRecRiseRow.wrapper Rows.fnExactRecRiseRow.mainSum := by unfold Func.isWrapper; first | (rw [if_pos (by decide +kernel)]; kernel_rfl) | (rw [if_neg (by decide +kernel)]; exact ⟨rfl, rfl⟩)
theorem rrise_holds : Rows.FnExactRecRiseSaid :=
  OpenClaim.holds_of_wide 5 Try.f5 rfl rfl rfl rfl rfl rfl rfl ⟨rfl, rfl, rfl, rfl, rfl⟩ rfl rfl rfl rfl rfl rrise_named Try.func5 rrise_closed rrise_inst rrise_wrap
    (fun os started H enc _ => rrise_lifted os started H enc)
end Go.Proofs.Ytfbfgljkiikabaa
