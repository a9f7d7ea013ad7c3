
import Derived.Test.YtoklnkojacdciaaLWorldR
import Derived.Test.YtoklnkojacdciaaOpW7
namespace Go.Proofs.Ytoklnkojacdciaa
open Go.ChangeShapes Go.WideShapes Go.ChangeAt Go.RowKit Go.Deep
open Go.ChangeMaps (open_string shut_string)

set_option maxRecDepth 100000 in
theorem rworld_lifted (os : Os) (started : os.Started) (H : Type) (enc : TypeId × Value → H) :
    ReturnsInHanded {} Try.checked os 4 .any (Rows.fnExactRecWorldOkSpec.pre6 enc Try.prog Try.f4 Rows.fnExactRecWorldOkRow.domain false) (Rows.fnExactRecWorldOkSpec.post enc Try.prog Try.f4 false true false false) := by
  refine returnsInHanded_of_change (C := Try.checked) Try.own started (by kernel_rfl) Try.func4
    (ChangeSpec.witness6 (enc := enc) (C := Try.checked) false ⟨#[], #[.agg #[.slice none 0 0, .slice none 0 0, .slice none 0 0]], []⟩ 8 (by kernel_rfl) (by kernel_rfl) (by kernel_rfl) (by kernel_rfl)) ?_
  intro W base args ds gs before hval0 hW hcnd _
  have hval : ∀ (j : Nat) t v, Try.f4.params[j]? = some t → args[j]? = some v → Value.okWide Try.prog W .any base t v := hval0
  have hW' := hW
  obtain ⟨p, q, hA0, hV, rfl, hfz, hnd⟩ := hW
  have hA : DataW.TrodAll enc Try.prog W 0 (fun _ => true) true Try.f4.params.toList args.toList ds p := hA0
  rw [Try.params4] at hA hval
  obtain ⟨v0, d0, rfl, rfl, h0⟩ := trodAll_one hA
  obtain ⟨rfl, rfl⟩ := trodVars_none hV
  have h0k := h0
  clear hA0 hval0
  simp only [List.append_nil] at hW'
  have hlt0 : ∀ x ∈ p, x.block < W.heap.size := fun x hx => by simpa using hW'.lt x (by simp [hx])
  obtain ⟨cs, U, rfl, hU⟩ := open_Wd (hval 0 35 v0 rfl rfl) h0
  refine (law_worldr cs U W hU (fun cs w h => implWorldR_any 0 cs U w h)).mono fun e W' ⟨he, hb⟩ => ?_
  subst he
  have hargs0 := Below.trod Try.laidOut (by kernel_rfl) (of_decide_eq_true (by kernel_rfl)) h0k hb hlt0
  exact ⟨_, rfl, ⟨_, _, _, [], _, [], hW', trodAll_mk1 (shut_bool Try.underlying4 true), trodAll_mk1 hargs0, rfl, hb.frame _, fun h => by cases h⟩⟩

theorem rworld_named : Try.pinned.checked.prog.funcNamed Rows.fnExactRecWorldOkRow.func = some 4 := by kernel_rfl
theorem and_t {a b : Bool} (ha : a = true) (hb : b = true) : (a && b) = true := by rw [ha, hb]; rfl
theorem rworld_c0 : (Rows.fnExactRecWorldOkRow.wf (OpenSpec.ofChange Rows.fnExactRecWorldOkSpec)) = true := by kernel_rfl
theorem rworld_c1 : (laidOutB Try.pinned.checked.prog) = true := by kernel_rfl
theorem rworld_c2 : (mapsRowed Try.pinned.checked.prog) = true := by kernel_rfl
theorem rworld_c3 : (Try.f4.params.all (Try.pinned.checked.prog.readableRec ·)) = true := by kernel_rfl
theorem rworld_c4 : (namedTie Try.pinned.checked.prog Rows.fnExactRecWorldOkRow.named Rows.fnExactRecWorldOkSpec.vars) = true := by kernel_rfl
theorem rworld_c5 : ((Rows.fnExactRecWorldOkRow.stops == [])) = true := by kernel_rfl
theorem rworld_c6 : ((Try.pinned.checked.prog.stops == [])) = true := by kernel_rfl
theorem rworld_c7 : ((Rows.fnExactRecWorldOkRow.knobs == [])) = true := by kernel_rfl
theorem rworld_c8 : ((Try.pinned.checked.prog.stopKnobs == [])) = true := by kernel_rfl
theorem rworld_c9 : ((Rows.fnExactRecWorldOkRow.inPlace == Try.pinned.checked.prog.inPlace 4)) = true := by kernel_rfl
theorem rworld_c10 : ((Rows.fnExactRecWorldOkRow.unfollowed == Try.pinned.checked.prog.unfollowed 4)) = true := by kernel_rfl
theorem rworld_c11 : ((Rows.fnExactRecWorldOkRow.recurses == Try.pinned.checked.prog.recurses 4)) = true := by kernel_rfl
theorem rworld_c12 : ((Rows.fnExactRecWorldOkRow.named == Try.pinned.checked.prog.varsNamed 4)) = true := by kernel_rfl
theorem rworld_c13 : ((Rows.fnExactRecWorldOkRow.maps == (Try.f4.params.toList ++ Rows.fnExactRecWorldOkSpec.plain.varTypes Try.pinned.checked.prog).any (Try.pinned.checked.prog.mapsRec ·))) = true := by kernel_rfl
theorem rworld_c14 : ((Rows.fnExactRecWorldOkRow.ifaces == (Try.f4.params.toList ++ Rows.fnExactRecWorldOkSpec.plain.varTypes Try.pinned.checked.prog).any (Try.pinned.checked.prog.ifacesRec ·))) = true := by kernel_rfl
theorem rworld_c15 : ((Rows.fnExactRecWorldOkRow.mapsOut == Try.pinned.checked.prog.mapsAmong Try.f4.resultTypes.toList)) = true := by kernel_rfl
theorem rworld_c16 : ((Rows.fnExactRecWorldOkRow.loops == (Try.f4.params.toList ++ Rows.fnExactRecWorldOkSpec.plain.varTypes Try.pinned.checked.prog).any (Try.pinned.checked.prog.loopsFrom ·))) = true := by kernel_rfl
theorem rworld_c17 : ((Rows.fnExactRecWorldOkRow.wideKeys == (Try.f4.params.toList ++ Rows.fnExactRecWorldOkSpec.plain.varTypes Try.pinned.checked.prog ++ Try.f4.resultTypes.toList).any (Try.pinned.checked.prog.wideKeysFrom ·))) = true := by kernel_rfl
theorem rworld_c18 : (Rows.fnExactRecWorldOkSpec.vars.all (Try.pinned.checked.prog.varReadable ·)) = true := by kernel_rfl
theorem rworld_c19 : (Try.f4.resultTypes.all (fun t => Try.pinned.checked.prog.readableRec t && decide (t < Try.pinned.checked.prog.types.size))) = true := by kernel_rfl
theorem rworld_c20 : ((Rows.fnExactRecWorldOkRow.ifacesOut == Try.f4.resultTypes.toList.any (Try.pinned.checked.prog.ifacesRec ·))) = true := by kernel_rfl
theorem rworld_c21 : ((Rows.fnExactRecWorldOkRow.loopsOut == Try.f4.resultTypes.toList.any (Try.pinned.checked.prog.loopsFrom ·))) = true := by kernel_rfl
theorem rworld_c22 : ((Rows.fnExactRecWorldOkRow.plainKeys == Try.pinned.checked.prog.plainKeys)) = true := by kernel_rfl
theorem rworld_c23 : (Rows.fnExactRecWorldOkRow.shortTexts.isNone) = true := by kernel_rfl
theorem rworld_c24 : (Try.pinned.checked.prog.stopsHeard) = true := by kernel_rfl
theorem rworld_c25 : (Try.pinned.checked.prog.mayEnter) = true := by kernel_rfl
theorem rworld_c26 : ((Rows.fnExactRecWorldOkRow.lifted == Try.pinned.checked.prog.liftsFinal)) = true := by kernel_rfl
theorem rworld_c27 : ((Try.pinned.checked.prog.make == some Rows.fnExactRecWorldOkRow.make)) = true := by kernel_rfl
theorem rworld_c28 : ((Rows.fnExactRecWorldOkRow.kinds == (if Rows.fnExactRecWorldOkRow.domain.isEmpty then [] else Try.f4.params.toList.map fun t => match Try.pinned.checked.prog.underlying t with | some (.int k) => some k | _ => none))) = true := by kernel_rfl
theorem rworld_c29 : ((Rows.fnExactRecWorldOkRow.pinned == Rows.fnExactRecWorldOkRow.pinnedBy)) = true := by kernel_rfl
theorem rworld_c30 : ((Rows.fnExactRecWorldOkRow.veiled == (Try.f4.params.toList ++ Rows.fnExactRecWorldOkSpec.plain.varTypes Try.pinned.checked.prog ++ Try.f4.resultTypes.toList).any (Try.pinned.checked.prog.veiledRec ·))) = true := by kernel_rfl
theorem rworld_c31 : (Rows.fnExactRecWorldOkRow.veiledFits Try.pinned.checked.prog Try.f4.params.toList (Try.f4.params.toList ++ Rows.fnExactRecWorldOkSpec.plain.varTypes Try.pinned.checked.prog ++ Try.f4.resultTypes.toList)) = true := by kernel_rfl
set_option maxRecDepth 100000 in
theorem rworld_closed : joinedFacts Try.pinned.checked.prog 4 Try.f4 Rows.fnExactRecWorldOkSpec Rows.fnExactRecWorldOkRow = true := and_t (and_t (and_t (and_t (and_t (and_t (and_t (and_t (and_t (and_t (and_t (and_t (and_t (and_t (and_t (and_t (and_t (and_t (and_t (and_t (and_t (and_t (and_t (and_t (and_t (and_t (and_t (and_t (and_t (and_t (and_t rworld_c0 rworld_c1) rworld_c2) rworld_c3) rworld_c4) rworld_c5) rworld_c6) rworld_c7) rworld_c8) rworld_c9) rworld_c10) rworld_c11) rworld_c12) rworld_c13) rworld_c14) rworld_c15) rworld_c16) rworld_c17) rworld_c18) rworld_c19) rworld_c20) rworld_c21) rworld_c22) rworld_c23) rworld_c24) rworld_c25) rworld_c26) rworld_c27) rworld_c28) rworld_c29) rworld_c30) rworld_c31
theorem rworld_inst : Try.f4.isInstance Try.pinned.checked.prog Rows.fnExactRecWorldOkRow.origin Rows.fnExactRecWorldOkRow.targs := of_decide_eq_true (by kernel_rfl)
theorem rworld_wrap : Try.f4.isWrapper Try.pinned.checked.prog Rows.fnExactRecWorldOkRow.wrapper Rows.fnExactRecWorldOkRow.mainSum := by unfold Func.isWrapper; first | (rw [if_pos (by decide +kernel)]; kernel_rfl) | (rw [if_neg (by decide +kernel)]; exact ⟨rfl, rfl⟩)
theorem rworld_holds : Rows.FnExactRecWorldOkSaid :=
  OpenClaim.holds_of_wide 4 Try.f4 rfl rfl rfl rfl rfl rfl rfl ⟨rfl, rfl, rfl, rfl, rfl⟩ rfl rfl rfl rfl rfl rworld_named Try.func4 rworld_closed rworld_inst rworld_wrap
    (fun os started H enc _ => rworld_lifted os started H enc)
end Go.Proofs.Ytoklnkojacdciaa
