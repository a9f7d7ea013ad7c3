
import Derived.Test.YtmaagbnjpdijnaaLHouse
import Derived.Test.YtmaagbnjpdijnaaOpH
namespace Go.Proofs.Ytmaagbnjpdijnaa
open Go.ChangeShapes Go.WideShapes Go.ChangeAt Go.RowKit Go.Deep
open Go.ChangeMaps (open_string shut_string)

set_option maxRecDepth 100000 in
theorem house_lifted (os : Os) (started : os.Started) (H : Type) (enc : TypeId × Value → H) :
    ReturnsInHanded {} Try.checked os 4 .any (Rows.fnExactHallHouseOkSpec.pre6 enc Try.prog Try.f4 Rows.fnExactHallHouseOkRow.domain false) (Rows.fnExactHallHouseOkSpec.post enc Try.prog Try.f4 false true false false) := by
  refine returnsInHanded_of_change (C := Try.checked) Try.own started (by kernel_rfl) Try.func4
    (ChangeSpec.witness6 (enc := enc) (C := Try.checked) false ⟨#[], #[.agg #[.slice none 0 0, .slice none 0 0]], []⟩ 8 (by kernel_rfl) (by kernel_rfl) (by kernel_rfl) (by kernel_rfl)) ?_
  intro W base args ds gs before hval0 hW hcnd _
  have hval : ∀ (j : Nat) t v, Try.f4.params[j]? = some t → args[j]? = some v → Value.okWide Try.prog W .any base t v := hval0
  have hW' := hW
  obtain ⟨p, q, hA0, hV, rfl, hfz, hnd⟩ := hW
  have hA : DataW.TrodAll enc Try.prog W 0 (fun _ => true) true Try.f4.params.toList args.toList ds p := hA0
  rw [Try.params4] at hA hval
  obtain ⟨v0, d0, rfl, rfl, h0⟩ := trodAll_one hA
  obtain ⟨rfl, rfl⟩ := trodVars_none hV
  have h0k := h0
  clear hA0 hval0
  simp only [List.append_nil] at hW'
  have hlt0 : ∀ x ∈ p, x.block < W.heap.size := fun x hx => by simpa using hW'.lt x (by simp [hx])
  obtain ⟨cs, U, rfl, hU⟩ := open_Ho (hval 0 25 v0 rfl rfl) h0
  refine (law_house cs U W hU (fun cs w h => implHouse_any 0 cs U w h)).mono fun e W' ⟨he, hb⟩ => ?_
  subst he
  have hargs0 := Below.trod Try.laidOut (by kernel_rfl) (of_decide_eq_true (by kernel_rfl)) h0k hb hlt0
  exact ⟨_, rfl, ⟨_, _, _, [], _, [], hW', trodAll_mk1 (shut_bool Try.underlying4 true), trodAll_mk1 hargs0, rfl, hb.frame _, fun h => by cases h⟩⟩

theorem house_named : Try.pinned.checked.prog.funcNamed Rows.fnExactHallHouseOkRow.func = some 4 := by kernel_rfl
theorem and_t {a b : Bool} (ha : a = true) (hb : b = true) : (a && b) = true := by rw [ha, hb]; rfl
theorem house_c0 : (Rows.fnExactHallHouseOkRow.wf (OpenSpec.ofChange Rows.fnExactHallHouseOkSpec)) = true := by kernel_rfl
theorem house_c1 : (laidOutB Try.pinned.checked.prog) = true := by kernel_rfl
theorem house_c2 : (mapsRowed Try.pinned.checked.prog) = true := by kernel_rfl
theorem house_c3 : (Try.f4.params.all (Try.pinned.checked.prog.readableRec ·)) = true := by kernel_rfl
theorem house_c4 : (namedTie Try.pinned.checked.prog Rows.fnExactHallHouseOkRow.named Rows.fnExactHallHouseOkSpec.vars) = true := by kernel_rfl
theorem house_c5 : ((Rows.fnExactHallHouseOkRow.stops == [])) = true := by kernel_rfl
theorem house_c6 : ((Try.pinned.checked.prog.stops == [])) = true := by kernel_rfl
theorem house_c7 : ((Rows.fnExactHallHouseOkRow.knobs == [])) = true := by kernel_rfl
theorem house_c8 : ((Try.pinned.checked.prog.stopKnobs == [])) = true := by kernel_rfl
theorem house_c9 : ((Rows.fnExactHallHouseOkRow.inPlace == Try.pinned.checked.prog.inPlace 4)) = true := by kernel_rfl
theorem house_c10 : ((Rows.fnExactHallHouseOkRow.unfollowed == Try.pinned.checked.prog.unfollowed 4)) = true := by kernel_rfl
theorem house_c11 : ((Rows.fnExactHallHouseOkRow.recurses == Try.pinned.checked.prog.recurses 4)) = true := by kernel_rfl
theorem house_c12 : ((Rows.fnExactHallHouseOkRow.named == Try.pinned.checked.prog.varsNamed 4)) = true := by kernel_rfl
theorem house_c13 : ((Rows.fnExactHallHouseOkRow.maps == (Try.f4.params.toList ++ Rows.fnExactHallHouseOkSpec.plain.varTypes Try.pinned.checked.prog).any (Try.pinned.checked.prog.mapsRec ·))) = true := by kernel_rfl
theorem house_c14 : ((Rows.fnExactHallHouseOkRow.ifaces == (Try.f4.params.toList ++ Rows.fnExactHallHouseOkSpec.plain.varTypes Try.pinned.checked.prog).any (Try.pinned.checked.prog.ifacesRec ·))) = true := by kernel_rfl
theorem house_c15 : ((Rows.fnExactHallHouseOkRow.mapsOut == Try.pinned.checked.prog.mapsAmong Try.f4.resultTypes.toList)) = true := by kernel_rfl
theorem house_c16 : ((Rows.fnExactHallHouseOkRow.loops == (Try.f4.params.toList ++ Rows.fnExactHallHouseOkSpec.plain.varTypes Try.pinned.checked.prog).any (Try.pinned.checked.prog.loopsFrom ·))) = true := by kernel_rfl
theorem house_c17 : ((Rows.fnExactHallHouseOkRow.wideKeys == (Try.f4.params.toList ++ Rows.fnExactHallHouseOkSpec.plain.varTypes Try.pinned.checked.prog ++ Try.f4.resultTypes.toList).any (Try.pinned.checked.prog.wideKeysFrom ·))) = true := by kernel_rfl
theorem house_c18 : (Rows.fnExactHallHouseOkSpec.vars.all (Try.pinned.checked.prog.varReadable ·)) = true := by kernel_rfl
theorem house_c19 : (Try.f4.resultTypes.all (fun t => Try.pinned.checked.prog.readableRec t && decide (t < Try.pinned.checked.prog.types.size))) = true := by kernel_rfl
theorem house_c20 : ((Rows.fnExactHallHouseOkRow.ifacesOut == Try.f4.resultTypes.toList.any (Try.pinned.checked.prog.ifacesRec ·))) = true := by kernel_rfl
theorem house_c21 : ((Rows.fnExactHallHouseOkRow.loopsOut == Try.f4.resultTypes.toList.any (Try.pinned.checked.prog.loopsFrom ·))) = true := by kernel_rfl
theorem house_c22 : ((Rows.fnExactHallHouseOkRow.plainKeys == Try.pinned.checked.prog.plainKeys)) = true := by kernel_rfl
theorem house_c23 : (Rows.fnExactHallHouseOkRow.shortTexts.isNone) = true := by kernel_rfl
theorem house_c24 : (Try.pinned.checked.prog.stopsHeard) = true := by kernel_rfl
theorem house_c25 : (Try.pinned.checked.prog.mayEnter) = true := by kernel_rfl
theorem house_c26 : ((Rows.fnExactHallHouseOkRow.lifted == Try.pinned.checked.prog.liftsFinal)) = true := by kernel_rfl
theorem house_c27 : ((Try.pinned.checked.prog.make == some Rows.fnExactHallHouseOkRow.make)) = true := by kernel_rfl
theorem house_c28 : ((Rows.fnExactHallHouseOkRow.kinds == (if Rows.fnExactHallHouseOkRow.domain.isEmpty then [] else Try.f4.params.toList.map fun t => match Try.pinned.checked.prog.underlying t with | some (.int k) => some k | _ => none))) = true := by kernel_rfl
theorem house_c29 : ((Rows.fnExactHallHouseOkRow.pinned == Rows.fnExactHallHouseOkRow.pinnedBy)) = true := by kernel_rfl
theorem house_c30 : ((Rows.fnExactHallHouseOkRow.veiled == (Try.f4.params.toList ++ Rows.fnExactHallHouseOkSpec.plain.varTypes Try.pinned.checked.prog ++ Try.f4.resultTypes.toList).any (Try.pinned.checked.prog.veiledRec ·))) = true := by kernel_rfl
theorem house_c31 : (Rows.fnExactHallHouseOkRow.veiledFits Try.pinned.checked.prog Try.f4.params.toList (Try.f4.params.toList ++ Rows.fnExactHallHouseOkSpec.plain.varTypes Try.pinned.checked.prog ++ Try.f4.resultTypes.toList)) = true := by kernel_rfl
set_option maxRecDepth 100000 in
theorem house_closed : joinedFacts Try.pinned.checked.prog 4 Try.f4 Rows.fnExactHallHouseOkSpec Rows.fnExactHallHouseOkRow = true := and_t (and_t (and_t (and_t (and_t (and_t (and_t (and_t (and_t (and_t (and_t (and_t (and_t (and_t (and_t (and_t (and_t (and_t (and_t (and_t (and_t (and_t (and_t (and_t (and_t (and_t (and_t (and_t (and_t (and_t (and_t house_c0 house_c1) house_c2) house_c3) house_c4) house_c5) house_c6) house_c7) house_c8) house_c9) house_c10) house_c11) house_c12) house_c13) house_c14) house_c15) house_c16) house_c17) house_c18) house_c19) house_c20) house_c21) house_c22) house_c23) house_c24) house_c25) house_c26) house_c27) house_c28) house_c29) house_c30) house_c31
theorem house_inst : Try.f4.isInstance Try.pinned.checked.prog Rows.fnExactHallHouseOkRow.origin Rows.fnExactHallHouseOkRow.targs := of_decide_eq_true (by kernel_rfl)
theorem house_wrap : Try.f4.isWrapper Try.pinned.checked.prog Rows.fnExactHallHouseOkRow.wrapper Rows.fnExactHallHouseOkRow.mainSum := by unfold Func.isWrapper; first | (rw [if_pos (by decide +kernel)]; kernel_rfl) | (rw [if_neg (by decide +kernel)]; exact ⟨rfl, rfl⟩)
theorem house_holds : Rows.FnExactHallHouseOkSaid :=
  OpenClaim.holds_of_wide 4 Try.f4 rfl rfl rfl rfl rfl rfl rfl ⟨rfl, rfl, rfl, rfl, rfl⟩ rfl rfl rfl rfl rfl house_named Try.func4 house_closed house_inst house_wrap
    (fun os started H enc _ => house_lifted os started H enc)
end Go.Proofs.Ytmaagbnjpdijnaa
