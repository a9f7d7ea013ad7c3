import Derived.Test.YtoklnkojacdciaaG52
namespace Go.Proofs.Ytoklnkojacdciaa
open Go.ChangeShapes Go.WideShapes Go.ChangeAt Go.RowKit Go.Deep
open Go.ChangeMaps (open_string shut_string)

set_option maxRecDepth 100000 in
theorem ragree_lifted (os : Os) (started : os.Started) (H : Type) (enc : TypeId × Value → H) :
    ReturnsInHanded {} Try.checked os 6 .any (Rows.fnExactRecAgreeSpec.pre6 enc Try.prog Try.f6 Rows.fnExactRecAgreeRow.domain false) (Rows.fnExactRecAgreeSpec.post enc Try.prog Try.f6 false true false false) := by
  refine returnsInHanded_of_change (C := Try.checked) Try.own started (by kernel_rfl) Try.func6
    (ChangeSpec.witness6 (enc := enc) (C := Try.checked) false ⟨#[], #[.agg #[.slice none 0 0, .slice none 0 0, .slice none 0 0]], []⟩ 8 (by kernel_rfl) (by kernel_rfl) (by kernel_rfl) (by kernel_rfl)) ?_
  intro W base args ds gs before hval0 hW hcnd _
  have hval : ∀ (j : Nat) t v, Try.f6.params[j]? = some t → args[j]? = some v → Value.okWide Try.prog W .any base t v := hval0
  have hW' := hW
  obtain ⟨p, q, hA0, hV, rfl, hfz, hnd⟩ := hW
  have hA : DataW.TrodAll enc Try.prog W 0 (fun _ => true) true Try.f6.params.toList args.toList ds p := hA0
  rw [Try.params6] at hA hval
  obtain ⟨v0, d0, rfl, rfl, h0⟩ := trodAll_one hA
  obtain ⟨rfl, rfl⟩ := trodVars_none hV
  have h0k := h0
  clear hA0 hval0
  simp only [List.append_nil] at hW'
  have hlt0 : ∀ x ∈ p, x.block < W.heap.size := fun x hx => by simpa using hW'.lt x (by simp [hx])
  obtain ⟨cs, U, rfl, hU⟩ := open_Wd (hval 0 35 v0 rfl rfl) h0
  refine (law_agreer cs U W hU (fun cs w h => implAgree_any 0 cs U w h)).mono fun e W' ⟨he, hb⟩ => ?_
  subst he
  have hargs0 := Below.trod Try.laidOut (by kernel_rfl) (of_decide_eq_true (by kernel_rfl)) h0k hb hlt0
  exact ⟨_, rfl, ⟨_, _, _, [], _, [], hW', trodAll_mk1 (shut_bool Try.underlying4 true), trodAll_mk1 hargs0, rfl, hb.frame _, fun h => by cases h⟩⟩

theorem ragree_named : Try.pinned.checked.prog.funcNamed Rows.fnExactRecAgreeRow.func = some 6 := by kernel_rfl
theorem and_t {a b : Bool} (ha : a = true) (hb : b = true) : (a && b) = true := by rw [ha, hb]; rfl
theorem ragree_c0 : (Rows.fnExactRecAgreeRow.wf (OpenSpec.ofChange Rows.fnExactRecAgreeSpec)) = true := by kernel_rfl
theorem ragree_c1 : (laidOutB Try.pinned.checked.prog) = true := by kernel_rfl
theorem ragree_c2 : (mapsRowed Try.pinned.checked.prog) = true := by kernel_rfl
theorem ragree_c3 : (Try.f6.params.all (Try.pinned.checked.prog.readableRec ·)) = true := by kernel_rfl
theorem ragree_c4 : (namedTie Try.pinned.checked.prog Rows.fnExactRecAgreeRow.named Rows.fnExactRecAgreeSpec.vars) = true := by kernel_rfl
theorem ragree_c5 : ((Rows.fnExactRecAgreeRow.stops == [])) = true := by kernel_rfl
theorem ragree_c6 : ((Try.pinned.checked.prog.stops == [])) = true := by kernel_rfl
theorem ragree_c7 : ((Rows.fnExactRecAgreeRow.knobs == [])) = true := by kernel_rfl
theorem ragree_c8 : ((Try.pinned.checked.prog.stopKnobs == [])) = true := by kernel_rfl
theorem ragree_c9 : ((Rows.fnExactRecAgreeRow.inPlace == Try.pinned.checked.prog.inPlace 6)) = true := by kernel_rfl
theorem ragree_c10 : ((Rows.fnExactRecAgreeRow.unfollowed == Try.pinned.checked.prog.unfollowed 6)) = true := by kernel_rfl
theorem ragree_c11 : ((Rows.fnExactRecAgreeRow.recurses == Try.pinned.checked.prog.recurses 6)) = true := by kernel_rfl
theorem ragree_c12 : ((Rows.fnExactRecAgreeRow.named == Try.pinned.checked.prog.varsNamed 6)) = true := by kernel_rfl
theorem ragree_c13 : ((Rows.fnExactRecAgreeRow.maps == (Try.f6.params.toList ++ Rows.fnExactRecAgreeSpec.plain.varTypes Try.pinned.checked.prog).any (Try.pinned.checked.prog.mapsRec ·))) = true := by kernel_rfl
theorem ragree_c14 : ((Rows.fnExactRecAgreeRow.ifaces == (Try.f6.params.toList ++ Rows.fnExactRecAgreeSpec.plain.varTypes Try.pinned.checked.prog).any (Try.pinned.checked.prog.ifacesRec ·))) = true := by kernel_rfl
theorem ragree_c15 : ((Rows.fnExactRecAgreeRow.mapsOut == Try.pinned.checked.prog.mapsAmong Try.f6.resultTypes.toList)) = true := by kernel_rfl
theorem ragree_c16 : ((Rows.fnExactRecAgreeRow.loops == (Try.f6.params.toList ++ Rows.fnExactRecAgreeSpec.plain.varTypes Try.pinned.checked.prog).any (Try.pinned.checked.prog.loopsFrom ·))) = true := by kernel_rfl
theorem ragree_c17 : ((Rows.fnExactRecAgreeRow.wideKeys == (Try.f6.params.toList ++ Rows.fnExactRecAgreeSpec.plain.varTypes Try.pinned.checked.prog ++ Try.f6.resultTypes.toList).any (Try.pinned.checked.prog.wideKeysFrom ·))) = true := by kernel_rfl
theorem ragree_c18 : (Rows.fnExactRecAgreeSpec.vars.all (Try.pinned.checked.prog.varReadable ·)) = true := by kernel_rfl
theorem ragree_c19 : (Try.f6.resultTypes.all (fun t => Try.pinned.checked.prog.readableRec t && decide (t < Try.pinned.checked.prog.types.size))) = true := by kernel_rfl
theorem ragree_c20 : ((Rows.fnExactRecAgreeRow.ifacesOut == Try.f6.resultTypes.toList.any (Try.pinned.checked.prog.ifacesRec ·))) = true := by kernel_rfl
theorem ragree_c21 : ((Rows.fnExactRecAgreeRow.loopsOut == Try.f6.resultTypes.toList.any (Try.pinned.checked.prog.loopsFrom ·))) = true := by kernel_rfl
theorem ragree_c22 : ((Rows.fnExactRecAgreeRow.plainKeys == Try.pinned.checked.prog.plainKeys)) = true := by kernel_rfl
theorem ragree_c23 : (Rows.fnExactRecAgreeRow.shortTexts.isNone) = true := by kernel_rfl
theorem ragree_c24 : (Try.pinned.checked.prog.stopsHeard) = true := by kernel_rfl
theorem ragree_c25 : (Try.pinned.checked.prog.mayEnter) = true := by kernel_rfl
theorem ragree_c26 : ((Rows.fnExactRecAgreeRow.lifted == Try.pinned.checked.prog.liftsFinal)) = true := by kernel_rfl
theorem ragree_c27 : ((Try.pinned.checked.prog.make == some Rows.fnExactRecAgreeRow.make)) = true := by kernel_rfl
theorem ragree_c28 : ((Rows.fnExactRecAgreeRow.kinds == (if Rows.fnExactRecAgreeRow.domain.isEmpty then [] else Try.f6.params.toList.map fun t => match Try.pinned.checked.prog.underlying t with | some (.int k) => some k | _ => none))) = true := by kernel_rfl
theorem ragree_c29 : ((Rows.fnExactRecAgreeRow.pinned == Rows.fnExactRecAgreeRow.pinnedBy)) = true := by kernel_rfl
theorem ragree_c30 : ((Rows.fnExactRecAgreeRow.veiled == (Try.f6.params.toList ++ Rows.fnExactRecAgreeSpec.plain.varTypes Try.pinned.checked.prog ++ Try.f6.resultTypes.toList).any (Try.pinned.checked.prog.veiledRec ·))) = true := by kernel_rfl
theorem ragree_c31 : (Rows.fnExactRecAgreeRow.veiledFits Try.pinned.checked.prog Try.f6.params.toList (Try.f6.params.toList ++ Rows.fnExactRecAgreeSpec.plain.varTypes Try.pinned.checked.prog ++ Try.f6.resultTypes.toList)) = true := by kernel_rfl
set_option maxRecDepth 100000 in
theorem ragree_closed : joinedFacts Try.pinned.checked.prog 6 Try.f6 Rows.fnExactRecAgreeSpec Rows.fnExactRecAgreeRow = true := and_t (and_t (and_t (and_t (and_t (and_t (and_t (and_t (and_t (and_t (and_t (and_t (and_t (and_t (and_t (and_t (and_t (and_t (and_t (and_t (and_t (and_t (and_t (and_t (and_t (and_t (and_t (and_t (and_t (and_t (and_t ragree_c0 ragree_c1) ragree_c2) ragree_c3) ragree_c4) ragree_c5) ragree_c6) ragree_c7) ragree_c8) ragree_c9) ragree_c10) ragree_c11) ragree_c12) ragree_c13) ragree_c14) ragree_c15) ragree_c16) ragree_c17) ragree_c18) ragree_c19) ragree_c20) ragree_c21) ragree_c22) ragree_c23) ragree_c24) ragree_c25) ragree_c26) ragree_c27) ragree_c28) ragree_c29) ragree_c30) ragree_c31
theorem ragree_inst : Try.f6.isInstance Try.pinned.checked.prog Rows.fnExactRecAgreeRow.origin Rows.fnExactRecAgreeRow.targs := of_decide_eq_true (by kernel_rfl)
theorem ragree_wrap : Try.f6.isWrapper Try.pinned.checked.prog Rows.fnExactRecAgreeRow.wrapper Rows.fnExactRecAgreeRow.mainSum := by unfold Func.isWrapper; first | (rw [if_pos (by decide +kernel)]; kernel_rfl) | (rw [if_neg (by decide +kernel)]; exact ⟨rfl, rfl⟩)
theorem ragree_holds : Rows.FnExactRecAgreeSaid :=
  OpenClaim.holds_of_wide 6 Try.f6 rfl rfl rfl rfl rfl rfl rfl ⟨rfl, rfl, rfl, rfl, rfl⟩ rfl rfl rfl rfl rfl ragree_named Try.func6 ragree_closed ragree_inst ragree_wrap
    (fun os started H enc _ => ragree_lifted os started H enc)
end Go.Proofs.Ytoklnkojacdciaa
