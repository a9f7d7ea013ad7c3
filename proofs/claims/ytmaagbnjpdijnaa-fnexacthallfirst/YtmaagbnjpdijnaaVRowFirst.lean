import Derived.Test.YtmaagbnjpdijnaaVLFirst
import Derived.Test.YtmaagbnjpdijnaaVOpH
import Derived.Test.YtmaagbnjpdijnaaVNN
namespace Go.Proofs.Ytmaagbnjpdijnaa
open Go.ChangeShapes Go.WideShapes Go.ChangeAt Go.RowKit Go.Deep
open Go.ChangeMaps (open_string shut_string)

set_option maxRecDepth 100000 in
theorem hfirst_lifted (os : Os) (started : os.Started) (H : Type) (enc : TypeId × Value → H) :
    ReturnsInHanded {} Try.checked os 5 .any (Rows.fnExactHallFirstSpec.pre6 enc Try.prog Try.f5 Rows.fnExactHallFirstRow.domain false) (Rows.fnExactHallFirstSpec.post enc Try.prog Try.f5 false true false false) := by
  refine returnsInHanded_of_change (C := Try.checked) Try.own started (by kernel_rfl) Try.func5
    (ChangeSpec.witness6 (enc := enc) (C := Try.checked) false ⟨#[], #[.agg #[.slice none 0 0, .slice none 0 0]], []⟩ 8 (by kernel_rfl) (by kernel_rfl) (by kernel_rfl) (by kernel_rfl)) ?_
  intro W base args ds gs before hval0 hW hcnd _
  have hval : ∀ (j : Nat) t v, Try.f5.params[j]? = some t → args[j]? = some v → Value.okWide Try.prog W .any base t v := hval0
  have hW' := hW
  obtain ⟨p, q, hA0, hV, rfl, hfz, hnd⟩ := hW
  have hA : DataW.TrodAll enc Try.prog W 0 (fun _ => true) true Try.f5.params.toList args.toList ds p := hA0
  rw [Try.params5] at hA hval
  obtain ⟨v0, d0, rfl, rfl, h0⟩ := trodAll_one hA
  obtain ⟨rfl, rfl⟩ := trodVars_none hV
  have h0k := h0
  clear hA0 hval0
  simp only [List.append_nil] at hW'
  have hlt0 : ∀ x ∈ p, x.block < W.heap.size := fun x hx => by simpa using hW'.lt x (by simp [hx])
  obtain ⟨cs, U, rfl, hU⟩ := open_Ho (hval 0 25 v0 rfl rfl) h0
  refine (law_first cs U W hU).mono fun e W' ⟨he, hb⟩ => ?_
  subst he
  have hargs0 := Below.trod Try.laidOut (by kernel_rfl) (of_decide_eq_true (by kernel_rfl)) h0k hb hlt0
  exact ⟨_, rfl, ⟨_, _, _, [], _, [], hW', trodAll_mk1 (shut_bool Try.underlying4 true), trodAll_mk1 hargs0, rfl, hb.frame _, fun h => by cases h⟩⟩

theorem hfirst_named : Try.pinned.checked.prog.funcNamed Rows.fnExactHallFirstRow.func = some 5 := by kernel_rfl
theorem and_t {a b : Bool} (ha : a = true) (hb : b = true) : (a && b) = true := by rw [ha, hb]; rfl
theorem hfirst_c0 : (Rows.fnExactHallFirstRow.wf (OpenSpec.ofChange Rows.fnExactHallFirstSpec)) = true := by kernel_rfl
theorem hfirst_c1 : (laidOutB Try.pinned.checked.prog) = true := by kernel_rfl
theorem hfirst_c2 : (mapsRowed Try.pinned.checked.prog) = true := by kernel_rfl
theorem hfirst_c3 : (Try.f5.params.all (Try.pinned.checked.prog.readableRec ·)) = true := by kernel_rfl
theorem hfirst_c4 : (namedTie Try.pinned.checked.prog Rows.fnExactHallFirstRow.named Rows.fnExactHallFirstSpec.vars) = true := by kernel_rfl
theorem hfirst_c5 : ((Rows.fnExactHallFirstRow.stops == [])) = true := by kernel_rfl
theorem hfirst_c6 : ((Try.pinned.checked.prog.stops == [])) = true := by kernel_rfl
theorem hfirst_c7 : ((Rows.fnExactHallFirstRow.knobs == [])) = true := by kernel_rfl
theorem hfirst_c8 : ((Try.pinned.checked.prog.stopKnobs == [])) = true := by kernel_rfl
theorem hfirst_c9 : ((Rows.fnExactHallFirstRow.inPlace == Try.pinned.checked.prog.inPlace 5)) = true := by kernel_rfl
theorem hfirst_c10 : ((Rows.fnExactHallFirstRow.unfollowed == Try.pinned.checked.prog.unfollowed 5)) = true := by kernel_rfl
theorem hfirst_c11 : ((Rows.fnExactHallFirstRow.recurses == Try.pinned.checked.prog.recurses 5)) = true := by kernel_rfl
theorem hfirst_c12 : ((Rows.fnExactHallFirstRow.named == Try.pinned.checked.prog.varsNamed 5)) = true := by kernel_rfl
theorem hfirst_c13 : ((Rows.fnExactHallFirstRow.maps == (Try.f5.params.toList ++ Rows.fnExactHallFirstSpec.plain.varTypes Try.pinned.checked.prog).any (Try.pinned.checked.prog.mapsRec ·))) = true := by kernel_rfl
theorem hfirst_c14 : ((Rows.fnExactHallFirstRow.ifaces == (Try.f5.params.toList ++ Rows.fnExactHallFirstSpec.plain.varTypes Try.pinned.checked.prog).any (Try.pinned.checked.prog.ifacesRec ·))) = true := by kernel_rfl
theorem hfirst_c15 : ((Rows.fnExactHallFirstRow.mapsOut == Try.pinned.checked.prog.mapsAmong Try.f5.resultTypes.toList)) = true := by kernel_rfl
theorem hfirst_c16 : ((Rows.fnExactHallFirstRow.loops == (Try.f5.params.toList ++ Rows.fnExactHallFirstSpec.plain.varTypes Try.pinned.checked.prog).any (Try.pinned.checked.prog.loopsFrom ·))) = true := by kernel_rfl
theorem hfirst_c17 : ((Rows.fnExactHallFirstRow.wideKeys == (Try.f5.params.toList ++ Rows.fnExactHallFirstSpec.plain.varTypes Try.pinned.checked.prog ++ Try.f5.resultTypes.toList).any (Try.pinned.checked.prog.wideKeysFrom ·))) = true := by kernel_rfl
theorem hfirst_c18 : (Rows.fnExactHallFirstSpec.vars.all (Try.pinned.checked.prog.varReadable ·)) = true := by kernel_rfl
theorem hfirst_c19 : (Try.f5.resultTypes.all (fun t => Try.pinned.checked.prog.readableRec t && decide (t < Try.pinned.checked.prog.types.size))) = true := by kernel_rfl
theorem hfirst_c20 : ((Rows.fnExactHallFirstRow.ifacesOut == Try.f5.resultTypes.toList.any (Try.pinned.checked.prog.ifacesRec ·))) = true := by kernel_rfl
theorem hfirst_c21 : ((Rows.fnExactHallFirstRow.loopsOut == Try.f5.resultTypes.toList.any (Try.pinned.checked.prog.loopsFrom ·))) = true := by kernel_rfl
theorem hfirst_c22 : ((Rows.fnExactHallFirstRow.plainKeys == Try.pinned.checked.prog.plainKeys)) = true := by kernel_rfl
theorem hfirst_c23 : (Rows.fnExactHallFirstRow.shortTexts.isNone) = true := by kernel_rfl
theorem hfirst_c24 : (Try.pinned.checked.prog.stopsHeard) = true := by kernel_rfl
theorem hfirst_c25 : (Try.pinned.checked.prog.mayEnter) = true := by kernel_rfl
theorem hfirst_c26 : ((Rows.fnExactHallFirstRow.lifted == Try.pinned.checked.prog.liftsFinal)) = true := by kernel_rfl
theorem hfirst_c27 : ((Try.pinned.checked.prog.make == some Rows.fnExactHallFirstRow.make)) = true := by kernel_rfl
theorem hfirst_c28 : ((Rows.fnExactHallFirstRow.kinds == (if Rows.fnExactHallFirstRow.domain.isEmpty then [] else Try.f5.params.toList.map fun t => match Try.pinned.checked.prog.underlying t with | some (.int k) => some k | _ => none))) = true := by kernel_rfl
theorem hfirst_c29 : ((Rows.fnExactHallFirstRow.pinned == Rows.fnExactHallFirstRow.pinnedBy)) = true := by kernel_rfl
theorem hfirst_c30 : ((Rows.fnExactHallFirstRow.veiled == (Try.f5.params.toList ++ Rows.fnExactHallFirstSpec.plain.varTypes Try.pinned.checked.prog ++ Try.f5.resultTypes.toList).any (Try.pinned.checked.prog.veiledRec ·))) = true := by kernel_rfl
theorem hfirst_c31 : (Rows.fnExactHallFirstRow.veiledFits Try.pinned.checked.prog Try.f5.params.toList (Try.f5.params.toList ++ Rows.fnExactHallFirstSpec.plain.varTypes Try.pinned.checked.prog ++ Try.f5.resultTypes.toList)) = true := by kernel_rfl
set_option maxRecDepth 100000 in
theorem hfirst_closed : joinedFacts Try.pinned.checked.prog 5 Try.f5 Rows.fnExactHallFirstSpec Rows.fnExactHallFirstRow = true := and_t (and_t (and_t (and_t (and_t (and_t (and_t (and_t (and_t (and_t (and_t (and_t (and_t (and_t (and_t (and_t (and_t (and_t (and_t (and_t (and_t (and_t (and_t (and_t (and_t (and_t (and_t (and_t (and_t (and_t (and_t hfirst_c0 hfirst_c1) hfirst_c2) hfirst_c3) hfirst_c4) hfirst_c5) hfirst_c6) hfirst_c7) hfirst_c8) hfirst_c9) hfirst_c10) hfirst_c11) hfirst_c12) hfirst_c13) hfirst_c14) hfirst_c15) hfirst_c16) hfirst_c17) hfirst_c18) hfirst_c19) hfirst_c20) hfirst_c21) hfirst_c22) hfirst_c23) hfirst_c24) hfirst_c25) hfirst_c26) hfirst_c27) hfirst_c28) hfirst_c29) hfirst_c30) hfirst_c31
theorem hfirst_inst : Try.f5.isInstance Try.pinned.checked.prog Rows.fnExactHallFirstRow.origin Rows.fnExactHallFirstRow.targs := of_decide_eq_true (by kernel_rfl)
theorem hfirst_wrap : Try.f5.isWrapper Try.pinned.checked.prog Rows.fnExactHallFirstRow.wrapper Rows.fnExactHallFirstRow.mainSum := by unfold Func.isWrapper; first | (rw [if_pos (by decide +kernel)]; kernel_rfl) | (rw [if_neg (by decide +kernel)]; exact ⟨rfl, rfl⟩)
theorem hfirst_holds : Rows.FnExactHallFirstSaid :=
  OpenClaim.holds_of_wide 5 Try.f5 rfl rfl rfl rfl rfl rfl rfl ⟨rfl, rfl, rfl, rfl, rfl⟩ rfl rfl rfl rfl rfl hfirst_named Try.func5 hfirst_closed hfirst_inst hfirst_wrap
    (fun os started H enc _ => hfirst_lifted os started H enc)
end Go.Proofs.Ytmaagbnjpdijnaa

