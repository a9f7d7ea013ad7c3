import Derived.Test.YtmaagbnjpdijnaaYLHLaw
import Derived.Test.YtmaagbnjpdijnaaYOpH
import Derived.Test.YtmaagbnjpdijnaaYNN
namespace Go.Proofs.Ytmaagbnjpdijnaa
open Go.ChangeShapes Go.WideShapes Go.ChangeAt Go.RowKit Go.Deep
open Go.ChangeMaps (open_string shut_string)

set_option maxRecDepth 100000 in
theorem hlaw_lifted (os : Os) (started : os.Started) (H : Type) (enc : TypeId × Value → H) :
    ReturnsInHanded {} Try.checked os 3 .any (Rows.fnExactHallLawSpec.pre6 enc Try.prog Try.f3 Rows.fnExactHallLawRow.domain false) (Rows.fnExactHallLawSpec.post enc Try.prog Try.f3 false true false false) := by
  refine returnsInHanded_of_change (C := Try.checked) Try.own started (by kernel_rfl) Try.func3
    (ChangeSpec.witness6 (enc := enc) (C := Try.checked) false ⟨#[], #[.agg #[.slice none 0 0, .slice none 0 0]], []⟩ 8 (by kernel_rfl) (by kernel_rfl) (by kernel_rfl) (by kernel_rfl)) ?_
  intro W base args ds gs before hval0 hW hcnd _
  have hval : ∀ (j : Nat) t v, Try.f3.params[j]? = some t → args[j]? = some v → Value.okWide Try.prog W .any base t v := hval0
  have hW' := hW
  obtain ⟨p, q, hA0, hV, rfl, hfz, hnd⟩ := hW
  have hA : DataW.TrodAll enc Try.prog W 0 (fun _ => true) true Try.f3.params.toList args.toList ds p := hA0
  rw [Try.params3] at hA hval
  obtain ⟨v0, d0, rfl, rfl, h0⟩ := trodAll_one hA
  obtain ⟨rfl, rfl⟩ := trodVars_none hV
  have h0k := h0
  clear hA0 hval0
  simp only [List.append_nil] at hW'
  have hlt0 : ∀ x ∈ p, x.block < W.heap.size := fun x hx => by simpa using hW'.lt x (by simp [hx])
  obtain ⟨cs, U, rfl, hU⟩ := open_Ho (hval 0 25 v0 rfl rfl) h0
  refine (law_hlaw cs U W hU).mono fun e W' ⟨he, hb⟩ => ?_
  subst he
  have hargs0 := Below.trod Try.laidOut (by kernel_rfl) (of_decide_eq_true (by kernel_rfl)) h0k hb hlt0
  exact ⟨_, rfl, ⟨_, _, _, [], _, [], hW', trodAll_mk1 (shut_bool Try.underlying4 true), trodAll_mk1 hargs0, rfl, hb.frame _, fun h => by cases h⟩⟩

theorem hlaw_named : Try.pinned.checked.prog.funcNamed Rows.fnExactHallLawRow.func = some 3 := by kernel_rfl
theorem and_t {a b : Bool} (ha : a = true) (hb : b = true) : (a && b) = true := by rw [ha, hb]; rfl
theorem hlaw_c0 : (Rows.fnExactHallLawRow.wf (OpenSpec.ofChange Rows.fnExactHallLawSpec)) = true := by kernel_rfl
theorem hlaw_c1 : (laidOutB Try.pinned.checked.prog) = true := by kernel_rfl
theorem hlaw_c2 : (mapsRowed Try.pinned.checked.prog) = true := by kernel_rfl
theorem hlaw_c3 : (Try.f3.params.all (Try.pinned.checked.prog.readableRec ·)) = true := by kernel_rfl
theorem hlaw_c4 : (namedTie Try.pinned.checked.prog Rows.fnExactHallLawRow.named Rows.fnExactHallLawSpec.vars) = true := by kernel_rfl
theorem hlaw_c5 : ((Rows.fnExactHallLawRow.stops == [])) = true := by kernel_rfl
theorem hlaw_c6 : ((Try.pinned.checked.prog.stops == [])) = true := by kernel_rfl
theorem hlaw_c7 : ((Rows.fnExactHallLawRow.knobs == [])) = true := by kernel_rfl
theorem hlaw_c8 : ((Try.pinned.checked.prog.stopKnobs == [])) = true := by kernel_rfl
theorem hlaw_c9 : ((Rows.fnExactHallLawRow.inPlace == Try.pinned.checked.prog.inPlace 3)) = true := by kernel_rfl
theorem hlaw_c10 : ((Rows.fnExactHallLawRow.unfollowed == Try.pinned.checked.prog.unfollowed 3)) = true := by kernel_rfl
theorem hlaw_c11 : ((Rows.fnExactHallLawRow.recurses == Try.pinned.checked.prog.recurses 3)) = true := by kernel_rfl
theorem hlaw_c12 : ((Rows.fnExactHallLawRow.named == Try.pinned.checked.prog.varsNamed 3)) = true := by kernel_rfl
theorem hlaw_c13 : ((Rows.fnExactHallLawRow.maps == (Try.f3.params.toList ++ Rows.fnExactHallLawSpec.plain.varTypes Try.pinned.checked.prog).any (Try.pinned.checked.prog.mapsRec ·))) = true := by kernel_rfl
theorem hlaw_c14 : ((Rows.fnExactHallLawRow.ifaces == (Try.f3.params.toList ++ Rows.fnExactHallLawSpec.plain.varTypes Try.pinned.checked.prog).any (Try.pinned.checked.prog.ifacesRec ·))) = true := by kernel_rfl
theorem hlaw_c15 : ((Rows.fnExactHallLawRow.mapsOut == Try.pinned.checked.prog.mapsAmong Try.f3.resultTypes.toList)) = true := by kernel_rfl
theorem hlaw_c16 : ((Rows.fnExactHallLawRow.loops == (Try.f3.params.toList ++ Rows.fnExactHallLawSpec.plain.varTypes Try.pinned.checked.prog).any (Try.pinned.checked.prog.loopsFrom ·))) = true := by kernel_rfl
theorem hlaw_c17 : ((Rows.fnExactHallLawRow.wideKeys == (Try.f3.params.toList ++ Rows.fnExactHallLawSpec.plain.varTypes Try.pinned.checked.prog ++ Try.f3.resultTypes.toList).any (Try.pinned.checked.prog.wideKeysFrom ·))) = true := by kernel_rfl
theorem hlaw_c18 : (Rows.fnExactHallLawSpec.vars.all (Try.pinned.checked.prog.varReadable ·)) = true := by kernel_rfl
theorem hlaw_c19 : (Try.f3.resultTypes.all (fun t => Try.pinned.checked.prog.readableRec t && decide (t < Try.pinned.checked.prog.types.size))) = true := by kernel_rfl
theorem hlaw_c20 : ((Rows.fnExactHallLawRow.ifacesOut == Try.f3.resultTypes.toList.any (Try.pinned.checked.prog.ifacesRec ·))) = true := by kernel_rfl
theorem hlaw_c21 : ((Rows.fnExactHallLawRow.loopsOut == Try.f3.resultTypes.toList.any (Try.pinned.checked.prog.loopsFrom ·))) = true := by kernel_rfl
theorem hlaw_c22 : ((Rows.fnExactHallLawRow.plainKeys == Try.pinned.checked.prog.plainKeys)) = true := by kernel_rfl
theorem hlaw_c23 : (Rows.fnExactHallLawRow.shortTexts.isNone) = true := by kernel_rfl
theorem hlaw_c24 : (Try.pinned.checked.prog.stopsHeard) = true := by kernel_rfl
theorem hlaw_c25 : (Try.pinned.checked.prog.mayEnter) = true := by kernel_rfl
theorem hlaw_c26 : ((Rows.fnExactHallLawRow.lifted == Try.pinned.checked.prog.liftsFinal)) = true := by kernel_rfl
theorem hlaw_c27 : ((Try.pinned.checked.prog.make == some Rows.fnExactHallLawRow.make)) = true := by kernel_rfl
theorem hlaw_c28 : ((Rows.fnExactHallLawRow.kinds == (if Rows.fnExactHallLawRow.domain.isEmpty then [] else Try.f3.params.toList.map fun t => match Try.pinned.checked.prog.underlying t with | some (.int k) => some k | _ => none))) = true := by kernel_rfl
theorem hlaw_c29 : ((Rows.fnExactHallLawRow.pinned == Rows.fnExactHallLawRow.pinnedBy)) = true := by kernel_rfl
theorem hlaw_c30 : ((Rows.fnExactHallLawRow.veiled == (Try.f3.params.toList ++ Rows.fnExactHallLawSpec.plain.varTypes Try.pinned.checked.prog ++ Try.f3.resultTypes.toList).any (Try.pinned.checked.prog.veiledRec ·))) = true := by kernel_rfl
theorem hlaw_c31 : (Rows.fnExactHallLawRow.veiledFits Try.pinned.checked.prog Try.f3.params.toList (Try.f3.params.toList ++ Rows.fnExactHallLawSpec.plain.varTypes Try.pinned.checked.prog ++ Try.f3.resultTypes.toList)) = true := by kernel_rfl
set_option maxRecDepth 100000 in
theorem hlaw_closed : joinedFacts Try.pinned.checked.prog 3 Try.f3 Rows.fnExactHallLawSpec Rows.fnExactHallLawRow = true := and_t (and_t (and_t (and_t (and_t (and_t (and_t (and_t (and_t (and_t (and_t (and_t (and_t (and_t (and_t (and_t (and_t (and_t (and_t (and_t (and_t (and_t (and_t (and_t (and_t (and_t (and_t (and_t (and_t (and_t (and_t hlaw_c0 hlaw_c1) hlaw_c2) hlaw_c3) hlaw_c4) hlaw_c5) hlaw_c6) hlaw_c7) hlaw_c8) hlaw_c9) hlaw_c10) hlaw_c11) hlaw_c12) hlaw_c13) hlaw_c14) hlaw_c15) hlaw_c16) hlaw_c17) hlaw_c18) hlaw_c19) hlaw_c20) hlaw_c21) hlaw_c22) hlaw_c23) hlaw_c24) hlaw_c25) hlaw_c26) hlaw_c27) hlaw_c28) hlaw_c29) hlaw_c30) hlaw_c31
theorem hlaw_inst : Try.f3.isInstance Try.pinned.checked.prog Rows.fnExactHallLawRow.origin Rows.fnExactHallLawRow.targs := of_decide_eq_true (by kernel_rfl)
theorem hlaw_wrap : Try.f3.isWrapper Try.pinned.checked.prog Rows.fnExactHallLawRow.wrapper Rows.fnExactHallLawRow.mainSum := by unfold Func.isWrapper; first | (rw [if_pos (by decide +kernel)]; kernel_rfl) | (rw [if_neg (by decide +kernel)]; exact ⟨rfl, rfl⟩)
theorem hlaw_holds : Rows.FnExactHallLawSaid :=
  OpenClaim.holds_of_wide 3 Try.f3 rfl rfl rfl rfl rfl rfl rfl ⟨rfl, rfl, rfl, rfl, rfl⟩ rfl rfl rfl rfl rfl hlaw_named Try.func3 hlaw_closed hlaw_inst hlaw_wrap
    (fun os started H enc _ => hlaw_lifted os started H enc)
end Go.Proofs.Ytmaagbnjpdijnaa

