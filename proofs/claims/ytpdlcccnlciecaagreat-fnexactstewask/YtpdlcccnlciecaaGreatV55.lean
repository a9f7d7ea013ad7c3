import Derived.Test.YtpdlcccnlciecaaGreatV54
namespace Go.Proofs.YtpdlcccnlciecaaGreat
open Go.ChangeShapes Go.WideShapes Go.ChangeAt Go.RowKit Go.Deep
open Go.ChangeMaps (open_string shut_string)

set_option maxRecDepth 100000 in
theorem ask_lifted (os : Os) (started : os.Started) (H : Type) (enc : TypeId × Value → H) :
    ReturnsInHanded {} Tryz.checked os 3 .any (Rows.fnExactStewAskSpec.pre6 enc Tryz.prog Tryz.f3 Rows.fnExactStewAskRow.domain false) (Rows.fnExactStewAskSpec.post enc Tryz.prog Tryz.f3 false true false false) := by
  refine returnsInHanded_of_change (C := Tryz.checked) Tryz.own started (by kernel_rfl) Tryz.func3
    (ChangeSpec.witness6 (enc := enc) (C := Tryz.checked) false ⟨#[], #[.int .i64 0, .agg #[.int .i64 0, .slice none 0 0, .slice none 0 0, .slice none 0 0]], []⟩ 8 (by kernel_rfl) (by kernel_rfl) (by kernel_rfl) (by kernel_rfl)) ?_
  intro W base args ds gs before hval0 hW hcnd _
  have hval : ∀ (j : Nat) t v, Tryz.f3.params[j]? = some t → args[j]? = some v → Value.okWide Tryz.prog W .any base t v := hval0
  have hW' := hW
  obtain ⟨p, q, hA0, hV, rfl, hfz, hnd⟩ := hW
  have hA : DataW.TrodAll enc Tryz.prog W 0 (fun _ => true) true Tryz.f3.params.toList args.toList ds p := hA0
  rw [Tryz.params3] at hA hval
  obtain ⟨v0, v1, d0, d1, p0, p1, rfl, rfl, rfl, h0, h1⟩ := trodAll_two hA
  obtain ⟨rfl, rfl⟩ := trodVars_none hV
  have h1k := h1
  obtain ⟨x0, rfl, rfl, rfl, s0⟩ := open_int Tryz.underlying3 (hval 0 3 v0 rfl rfl) h0
  clear hA0 hval0
  simp only [List.append_nil, List.nil_append] at hW'
  have hlt1 : ∀ x ∈ p1, x.block < W.heap.size := fun x hx => by simpa using hW'.lt x (by simp [hx])
  obtain ⟨sv, cv, bv, B, rfl, hB⟩ := open_sbook (hval 1 26 v1 rfl rfl) h1
  refine (law_ask x0 _ _ _ B W hB).mono fun e W' ⟨he, hb⟩ => ?_
  subst he
  have hargs1 := Below.trod Tryz.laidOut (by kernel_rfl) (of_decide_eq_true (by kernel_rfl)) h1k hb hlt1
  exact ⟨_, rfl, ⟨_, _, _, [], _, [], hW', trodAll_mk1 (shut_bool Tryz.underlying4 true), trodAll_mk2 (shut_int Tryz.underlying3 s0) hargs1, rfl, hb.frame _, fun h => by cases h⟩⟩

theorem ask_named : Tryz.pinned.checked.prog.funcNamed Rows.fnExactStewAskRow.func = some 3 := by kernel_rfl
theorem and_t {a b : Bool} (ha : a = true) (hb : b = true) : (a && b) = true := by rw [ha, hb]; rfl
theorem ask_c0 : (Rows.fnExactStewAskRow.wf (OpenSpec.ofChange Rows.fnExactStewAskSpec)) = true := by kernel_rfl
theorem ask_c1 : (laidOutB Tryz.pinned.checked.prog) = true := by kernel_rfl
theorem ask_c2 : (mapsRowed Tryz.pinned.checked.prog) = true := by kernel_rfl
theorem ask_c3 : (Tryz.f3.params.all (Tryz.pinned.checked.prog.readableRec ·)) = true := by kernel_rfl
theorem ask_c4 : (namedTie Tryz.pinned.checked.prog Rows.fnExactStewAskRow.named Rows.fnExactStewAskSpec.vars) = true := by kernel_rfl
theorem ask_c5 : ((Rows.fnExactStewAskRow.stops == [])) = true := by kernel_rfl
theorem ask_c6 : ((Tryz.pinned.checked.prog.stops == [])) = true := by kernel_rfl
theorem ask_c7 : ((Rows.fnExactStewAskRow.knobs == [])) = true := by kernel_rfl
theorem ask_c8 : ((Tryz.pinned.checked.prog.stopKnobs == [])) = true := by kernel_rfl
theorem ask_c9 : ((Rows.fnExactStewAskRow.inPlace == Tryz.pinned.checked.prog.inPlace 3)) = true := by kernel_rfl
theorem ask_c10 : ((Rows.fnExactStewAskRow.unfollowed == Tryz.pinned.checked.prog.unfollowed 3)) = true := by kernel_rfl
theorem ask_c11 : ((Rows.fnExactStewAskRow.recurses == Tryz.pinned.checked.prog.recurses 3)) = true := by kernel_rfl
theorem ask_c12 : ((Rows.fnExactStewAskRow.named == Tryz.pinned.checked.prog.varsNamed 3)) = true := by kernel_rfl
theorem ask_c13 : ((Rows.fnExactStewAskRow.maps == (Tryz.f3.params.toList ++ Rows.fnExactStewAskSpec.plain.varTypes Tryz.pinned.checked.prog).any (Tryz.pinned.checked.prog.mapsRec ·))) = true := by kernel_rfl
theorem ask_c14 : ((Rows.fnExactStewAskRow.ifaces == (Tryz.f3.params.toList ++ Rows.fnExactStewAskSpec.plain.varTypes Tryz.pinned.checked.prog).any (Tryz.pinned.checked.prog.ifacesRec ·))) = true := by kernel_rfl
theorem ask_c15 : ((Rows.fnExactStewAskRow.mapsOut == Tryz.pinned.checked.prog.mapsAmong Tryz.f3.resultTypes.toList)) = true := by kernel_rfl
theorem ask_c16 : ((Rows.fnExactStewAskRow.loops == (Tryz.f3.params.toList ++ Rows.fnExactStewAskSpec.plain.varTypes Tryz.pinned.checked.prog).any (Tryz.pinned.checked.prog.loopsFrom ·))) = true := by kernel_rfl
theorem ask_c17 : ((Rows.fnExactStewAskRow.wideKeys == (Tryz.f3.params.toList ++ Rows.fnExactStewAskSpec.plain.varTypes Tryz.pinned.checked.prog ++ Tryz.f3.resultTypes.toList).any (Tryz.pinned.checked.prog.wideKeysFrom ·))) = true := by kernel_rfl
theorem ask_c18 : (Rows.fnExactStewAskSpec.vars.all (Tryz.pinned.checked.prog.varReadable ·)) = true := by kernel_rfl
theorem ask_c19 : (Tryz.f3.resultTypes.all (fun t => Tryz.pinned.checked.prog.readableRec t && decide (t < Tryz.pinned.checked.prog.types.size))) = true := by kernel_rfl
theorem ask_c20 : ((Rows.fnExactStewAskRow.ifacesOut == Tryz.f3.resultTypes.toList.any (Tryz.pinned.checked.prog.ifacesRec ·))) = true := by kernel_rfl
theorem ask_c21 : ((Rows.fnExactStewAskRow.loopsOut == Tryz.f3.resultTypes.toList.any (Tryz.pinned.checked.prog.loopsFrom ·))) = true := by kernel_rfl
theorem ask_c22 : ((Rows.fnExactStewAskRow.plainKeys == Tryz.pinned.checked.prog.plainKeys)) = true := by kernel_rfl
theorem ask_c23 : (Rows.fnExactStewAskRow.shortTexts.isNone) = true := by kernel_rfl
theorem ask_c24 : (Tryz.pinned.checked.prog.stopsHeard) = true := by kernel_rfl
theorem ask_c25 : (Tryz.pinned.checked.prog.mayEnter) = true := by kernel_rfl
theorem ask_c26 : ((Rows.fnExactStewAskRow.lifted == Tryz.pinned.checked.prog.liftsFinal)) = true := by kernel_rfl
theorem ask_c27 : ((Tryz.pinned.checked.prog.make == some Rows.fnExactStewAskRow.make)) = true := by kernel_rfl
theorem ask_c28 : ((Rows.fnExactStewAskRow.kinds == (if Rows.fnExactStewAskRow.domain.isEmpty then [] else Tryz.f3.params.toList.map fun t => match Tryz.pinned.checked.prog.underlying t with | some (.int k) => some k | _ => none))) = true := by kernel_rfl
theorem ask_c29 : ((Rows.fnExactStewAskRow.pinned == Rows.fnExactStewAskRow.pinnedBy)) = true := by kernel_rfl
theorem ask_c30 : ((Rows.fnExactStewAskRow.veiled == (Tryz.f3.params.toList ++ Rows.fnExactStewAskSpec.plain.varTypes Tryz.pinned.checked.prog ++ Tryz.f3.resultTypes.toList).any (Tryz.pinned.checked.prog.veiledRec ·))) = true := by kernel_rfl
theorem ask_c31 : (Rows.fnExactStewAskRow.veiledFits Tryz.pinned.checked.prog Tryz.f3.params.toList (Tryz.f3.params.toList ++ Rows.fnExactStewAskSpec.plain.varTypes Tryz.pinned.checked.prog ++ Tryz.f3.resultTypes.toList)) = true := by kernel_rfl
set_option maxRecDepth 100000 in
theorem ask_closed : joinedFacts Tryz.pinned.checked.prog 3 Tryz.f3 Rows.fnExactStewAskSpec Rows.fnExactStewAskRow = true := and_t (and_t (and_t (and_t (and_t (and_t (and_t (and_t (and_t (and_t (and_t (and_t (and_t (and_t (and_t (and_t (and_t (and_t (and_t (and_t (and_t (and_t (and_t (and_t (and_t (and_t (and_t (and_t (and_t (and_t (and_t ask_c0 ask_c1) ask_c2) ask_c3) ask_c4) ask_c5) ask_c6) ask_c7) ask_c8) ask_c9) ask_c10) ask_c11) ask_c12) ask_c13) ask_c14) ask_c15) ask_c16) ask_c17) ask_c18) ask_c19) ask_c20) ask_c21) ask_c22) ask_c23) ask_c24) ask_c25) ask_c26) ask_c27) ask_c28) ask_c29) ask_c30) ask_c31
theorem ask_inst : Tryz.f3.isInstance Tryz.pinned.checked.prog Rows.fnExactStewAskRow.origin Rows.fnExactStewAskRow.targs := of_decide_eq_true (by kernel_rfl)
theorem ask_wrap : Tryz.f3.isWrapper Tryz.pinned.checked.prog Rows.fnExactStewAskRow.wrapper Rows.fnExactStewAskRow.mainSum := by unfold Func.isWrapper; first | (rw [if_pos (by decide +kernel)]; kernel_rfl) | (rw [if_neg (by decide +kernel)]; exact ⟨rfl, rfl⟩)
theorem ask_holds : Rows.FnExactStewAskSaid :=
  OpenClaim.holds_of_wide 3 Tryz.f3 rfl rfl rfl rfl rfl rfl rfl ⟨rfl, rfl, rfl, rfl, rfl⟩ rfl rfl rfl rfl rfl ask_named Tryz.func3 ask_closed ask_inst ask_wrap
    (fun os started H enc _ => ask_lifted os started H enc)
end Go.Proofs.YtpdlcccnlciecaaGreat
