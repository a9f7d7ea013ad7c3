
import Derived.Test.YtemggnmooiaokaaLValid
import Derived.Test.YtemggnmooiaokaaOpS
namespace Go.Proofs.Ytemggnmooiaokaa
open Go.ChangeShapes Go.WideShapes Go.ChangeAt Go.RowKit Go.Deep
open Go.ChangeMaps (open_string shut_string)

set_option maxRecDepth 100000 in
theorem valid_lifted (os : Os) (started : os.Started) (H : Type) (enc : TypeId × Value → H) :
    ReturnsInHanded {} Try.checked os 3 .any (Rows.fnExactStewValidSpec.pre6 enc Try.prog Try.f3 Rows.fnExactStewValidRow.domain false) (Rows.fnExactStewValidSpec.post enc Try.prog Try.f3 false true false false) := by
  refine returnsInHanded_of_change (C := Try.checked) Try.own started (by kernel_rfl) Try.func3
    (ChangeSpec.witness6 (enc := enc) (C := Try.checked) false ⟨#[], #[.agg #[.int .i64 0, .slice none 0 0, .slice none 0 0, .slice none 0 0]], []⟩ 8 (by kernel_rfl) (by kernel_rfl) (by kernel_rfl) (by kernel_rfl)) ?_
  intro W base args ds gs before hval0 hW hcnd _
  have hval : ∀ (j : Nat) t v, Try.f3.params[j]? = some t → args[j]? = some v → Value.okWide Try.prog W .any base t v := hval0
  have hW' := hW
  obtain ⟨p, q, hA0, hV, rfl, hfz, hnd⟩ := hW
  have hA : DataW.TrodAll enc Try.prog W 0 (fun _ => true) true Try.f3.params.toList args.toList ds p := hA0
  rw [Try.params3] at hA hval
  obtain ⟨v0, d0, rfl, rfl, h0⟩ := trodAll_one hA
  obtain ⟨rfl, rfl⟩ := trodVars_none hV
  have h0k := h0
  clear hA0 hval0
  simp only [List.append_nil] at hW'
  have hlt0 : ∀ x ∈ p, x.block < W.heap.size := fun x hx => by simpa using hW'.lt x (by simp [hx])
  obtain ⟨sv, cv, bv, B, rfl, hB⟩ := open_sbook (hval 0 26 v0 rfl rfl) h0
  refine (law_valid _ _ _ B W hB).mono fun e W' ⟨he, hb⟩ => ?_
  subst he
  have hargs0 := Below.trod Try.laidOut (by kernel_rfl) (of_decide_eq_true (by kernel_rfl)) h0k hb hlt0
  exact ⟨_, rfl, ⟨_, _, _, [], _, [], hW', trodAll_mk1 (shut_bool Try.underlying4 true), trodAll_mk1 hargs0, rfl, hb.frame _, fun h => by cases h⟩⟩

theorem valid_named : Try.pinned.checked.prog.funcNamed Rows.fnExactStewValidRow.func = some 3 := by kernel_rfl
theorem and_t {a b : Bool} (ha : a = true) (hb : b = true) : (a && b) = true := by rw [ha, hb]; rfl
theorem valid_c0 : (Rows.fnExactStewValidRow.wf (OpenSpec.ofChange Rows.fnExactStewValidSpec)) = true := by kernel_rfl
theorem valid_c1 : (laidOutB Try.pinned.checked.prog) = true := by kernel_rfl
theorem valid_c2 : (mapsRowed Try.pinned.checked.prog) = true := by kernel_rfl
theorem valid_c3 : (Try.f3.params.all (Try.pinned.checked.prog.readableRec ·)) = true := by kernel_rfl
theorem valid_c4 : (namedTie Try.pinned.checked.prog Rows.fnExactStewValidRow.named Rows.fnExactStewValidSpec.vars) = true := by kernel_rfl
theorem valid_c5 : ((Rows.fnExactStewValidRow.stops == [])) = true := by kernel_rfl
theorem valid_c6 : ((Try.pinned.checked.prog.stops == [])) = true := by kernel_rfl
theorem valid_c7 : ((Rows.fnExactStewValidRow.knobs == [])) = true := by kernel_rfl
theorem valid_c8 : ((Try.pinned.checked.prog.stopKnobs == [])) = true := by kernel_rfl
theorem valid_c9 : ((Rows.fnExactStewValidRow.inPlace == Try.pinned.checked.prog.inPlace 3)) = true := by kernel_rfl
theorem valid_c10 : ((Rows.fnExactStewValidRow.unfollowed == Try.pinned.checked.prog.unfollowed 3)) = true := by kernel_rfl
theorem valid_c11 : ((Rows.fnExactStewValidRow.recurses == Try.pinned.checked.prog.recurses 3)) = true := by kernel_rfl
theorem valid_c12 : ((Rows.fnExactStewValidRow.named == Try.pinned.checked.prog.varsNamed 3)) = true := by kernel_rfl
theorem valid_c13 : ((Rows.fnExactStewValidRow.maps == (Try.f3.params.toList ++ Rows.fnExactStewValidSpec.plain.varTypes Try.pinned.checked.prog).any (Try.pinned.checked.prog.mapsRec ·))) = true := by kernel_rfl
theorem valid_c14 : ((Rows.fnExactStewValidRow.ifaces == (Try.f3.params.toList ++ Rows.fnExactStewValidSpec.plain.varTypes Try.pinned.checked.prog).any (Try.pinned.checked.prog.ifacesRec ·))) = true := by kernel_rfl
theorem valid_c15 : ((Rows.fnExactStewValidRow.mapsOut == Try.pinned.checked.prog.mapsAmong Try.f3.resultTypes.toList)) = true := by kernel_rfl
theorem valid_c16 : ((Rows.fnExactStewValidRow.loops == (Try.f3.params.toList ++ Rows.fnExactStewValidSpec.plain.varTypes Try.pinned.checked.prog).any (Try.pinned.checked.prog.loopsFrom ·))) = true := by kernel_rfl
theorem valid_c17 : ((Rows.fnExactStewValidRow.wideKeys == (Try.f3.params.toList ++ Rows.fnExactStewValidSpec.plain.varTypes Try.pinned.checked.prog ++ Try.f3.resultTypes.toList).any (Try.pinned.checked.prog.wideKeysFrom ·))) = true := by kernel_rfl
theorem valid_c18 : (Rows.fnExactStewValidSpec.vars.all (Try.pinned.checked.prog.varReadable ·)) = true := by kernel_rfl
theorem valid_c19 : (Try.f3.resultTypes.all (fun t => Try.pinned.checked.prog.readableRec t && decide (t < Try.pinned.checked.prog.types.size))) = true := by kernel_rfl
theorem valid_c20 : ((Rows.fnExactStewValidRow.ifacesOut == Try.f3.resultTypes.toList.any (Try.pinned.checked.prog.ifacesRec ·))) = true := by kernel_rfl
theorem valid_c21 : ((Rows.fnExactStewValidRow.loopsOut == Try.f3.resultTypes.toList.any (Try.pinned.checked.prog.loopsFrom ·))) = true := by kernel_rfl
theorem valid_c22 : ((Rows.fnExactStewValidRow.plainKeys == Try.pinned.checked.prog.plainKeys)) = true := by kernel_rfl
theorem valid_c23 : (Rows.fnExactStewValidRow.shortTexts.isNone) = true := by kernel_rfl
theorem valid_c24 : (Try.pinned.checked.prog.stopsHeard) = true := by kernel_rfl
theorem valid_c25 : (Try.pinned.checked.prog.mayEnter) = true := by kernel_rfl
theorem valid_c26 : ((Rows.fnExactStewValidRow.lifted == Try.pinned.checked.prog.liftsFinal)) = true := by kernel_rfl
theorem valid_c27 : ((Try.pinned.checked.prog.make == some Rows.fnExactStewValidRow.make)) = true := by kernel_rfl
theorem valid_c28 : ((Rows.fnExactStewValidRow.kinds == (if Rows.fnExactStewValidRow.domain.isEmpty then [] else Try.f3.params.toList.map fun t => match Try.pinned.checked.prog.underlying t with | some (.int k) => some k | _ => none))) = true := by kernel_rfl
theorem valid_c29 : ((Rows.fnExactStewValidRow.pinned == Rows.fnExactStewValidRow.pinnedBy)) = true := by kernel_rfl
theorem valid_c30 : ((Rows.fnExactStewValidRow.veiled == (Try.f3.params.toList ++ Rows.fnExactStewValidSpec.plain.varTypes Try.pinned.checked.prog ++ Try.f3.resultTypes.toList).any (Try.pinned.checked.prog.veiledRec ·))) = true := by kernel_rfl
theorem valid_c31 : (Rows.fnExactStewValidRow.veiledFits Try.pinned.checked.prog Try.f3.params.toList (Try.f3.params.toList ++ Rows.fnExactStewValidSpec.plain.varTypes Try.pinned.checked.prog ++ Try.f3.resultTypes.toList)) = true := by kernel_rfl
set_option maxRecDepth 100000 in
theorem valid_closed : joinedFacts Try.pinned.checked.prog 3 Try.f3 Rows.fnExactStewValidSpec Rows.fnExactStewValidRow = true := and_t (and_t (and_t (and_t (and_t (and_t (and_t (and_t (and_t (and_t (and_t (and_t (and_t (and_t (and_t (and_t (and_t (and_t (and_t (and_t (and_t (and_t (and_t (and_t (and_t (and_t (and_t (and_t (and_t (and_t (and_t valid_c0 valid_c1) valid_c2) valid_c3) valid_c4) valid_c5) valid_c6) valid_c7) valid_c8) valid_c9) valid_c10) valid_c11) valid_c12) valid_c13) valid_c14) valid_c15) valid_c16) valid_c17) valid_c18) valid_c19) valid_c20) valid_c21) valid_c22) valid_c23) valid_c24) valid_c25) valid_c26) valid_c27) valid_c28) valid_c29) valid_c30) valid_c31
theorem valid_inst : Try.f3.isInstance Try.pinned.checked.prog Rows.fnExactStewValidRow.origin Rows.fnExactStewValidRow.targs := of_decide_eq_true (by kernel_rfl)
theorem valid_wrap : Try.f3.isWrapper Try.pinned.checked.prog Rows.fnExactStewValidRow.wrapper Rows.fnExactStewValidRow.mainSum := by unfold Func.isWrapper; first | (rw [if_pos (by decide +kernel)]; kernel_rfl) | (rw [if_neg (by decide +kernel)]; exact ⟨rfl, rfl⟩)
theorem valid_holds : Rows.FnExactStewValidSaid :=
  OpenClaim.holds_of_wide 3 Try.f3 rfl rfl rfl rfl rfl rfl rfl ⟨rfl, rfl, rfl, rfl, rfl⟩ rfl rfl rfl rfl rfl valid_named Try.func3 valid_closed valid_inst valid_wrap
    (fun os started H enc _ => valid_lifted os started H enc)
end Go.Proofs.Ytemggnmooiaokaa
