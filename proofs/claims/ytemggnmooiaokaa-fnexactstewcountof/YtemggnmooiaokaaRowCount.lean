
import Derived.Test.YtemggnmooiaokaaLCount
import Derived.Test.YtemggnmooiaokaaOpS
namespace Go.Proofs.Ytemggnmooiaokaa
open Go.ChangeShapes Go.WideShapes Go.ChangeAt Go.RowKit Go.Deep
open Go.ChangeMaps (open_string shut_string)

set_option maxRecDepth 100000 in
theorem count_lifted (os : Os) (started : os.Started) (H : Type) (enc : TypeId × Value → H) :
    ReturnsInHanded {} Try.checked os 4 .any (Rows.fnExactStewCountOfSpec.pre6 enc Try.prog Try.f4 Rows.fnExactStewCountOfRow.domain false) (Rows.fnExactStewCountOfSpec.post enc Try.prog Try.f4 false true false false) := by
  refine returnsInHanded_of_change (C := Try.checked) Try.own started (by kernel_rfl) Try.func4
    (ChangeSpec.witness6 (enc := enc) (C := Try.checked) false ⟨#[], #[.agg #[.int .i64 0, .slice none 0 0, .slice none 0 0, .slice none 0 0], .string .empty], []⟩ 8 (by kernel_rfl) (by kernel_rfl) (by kernel_rfl) (by kernel_rfl)) ?_
  intro W base args ds gs before hval0 hW hcnd _
  have hval : ∀ (j : Nat) t v, Try.f4.params[j]? = some t → args[j]? = some v → Value.okWide Try.prog W .any base t v := hval0
  have hW' := hW
  obtain ⟨p, q, hA0, hV, rfl, hfz, hnd⟩ := hW
  have hA : DataW.TrodAll enc Try.prog W 0 (fun _ => true) true Try.f4.params.toList args.toList ds p := hA0
  rw [Try.params4] at hA hval
  obtain ⟨v0, v1, d0, d1, p0, p1, rfl, rfl, rfl, h0, h1⟩ := trodAll_two hA
  obtain ⟨rfl, rfl⟩ := trodVars_none hV
  have h0k := h0
  obtain ⟨x1, rfl, rfl, rfl, s1⟩ := open_string Try.underlying9 (hval 1 9 v1 rfl rfl) h1
  clear hA0 hval0
  simp only [List.append_nil] at hW'
  have hlt0 : ∀ x ∈ p0, x.block < W.heap.size := fun x hx => by simpa using hW'.lt x (by simp [hx])
  obtain ⟨sv, cv, bv, B, rfl, hB⟩ := open_sbook (hval 0 26 v0 rfl rfl) h0
  refine (law_count _ _ _ B x1 W hB s1).mono fun e W' ⟨he, hb⟩ => ?_
  subst he
  have hargs0 := Below.trod Try.laidOut (by kernel_rfl) (of_decide_eq_true (by kernel_rfl)) h0k hb hlt0
  exact ⟨_, rfl, ⟨_, _, _, [], _, [], hW', trodAll_mk1 (shut_bool Try.underlying4 true), trodAll_mk2 hargs0 (shut_string Try.underlying9 s1), rfl, hb.frame _, fun h => by cases h⟩⟩

theorem count_named : Try.pinned.checked.prog.funcNamed Rows.fnExactStewCountOfRow.func = some 4 := by kernel_rfl
theorem and_t {a b : Bool} (ha : a = true) (hb : b = true) : (a && b) = true := by rw [ha, hb]; rfl
theorem count_c0 : (Rows.fnExactStewCountOfRow.wf (OpenSpec.ofChange Rows.fnExactStewCountOfSpec)) = true := by kernel_rfl
theorem count_c1 : (laidOutB Try.pinned.checked.prog) = true := by kernel_rfl
theorem count_c2 : (mapsRowed Try.pinned.checked.prog) = true := by kernel_rfl
theorem count_c3 : (Try.f4.params.all (Try.pinned.checked.prog.readableRec ·)) = true := by kernel_rfl
theorem count_c4 : (namedTie Try.pinned.checked.prog Rows.fnExactStewCountOfRow.named Rows.fnExactStewCountOfSpec.vars) = true := by kernel_rfl
theorem count_c5 : ((Rows.fnExactStewCountOfRow.stops == [])) = true := by kernel_rfl
theorem count_c6 : ((Try.pinned.checked.prog.stops == [])) = true := by kernel_rfl
theorem count_c7 : ((Rows.fnExactStewCountOfRow.knobs == [])) = true := by kernel_rfl
theorem count_c8 : ((Try.pinned.checked.prog.stopKnobs == [])) = true := by kernel_rfl
theorem count_c9 : ((Rows.fnExactStewCountOfRow.inPlace == Try.pinned.checked.prog.inPlace 4)) = true := by kernel_rfl
theorem count_c10 : ((Rows.fnExactStewCountOfRow.unfollowed == Try.pinned.checked.prog.unfollowed 4)) = true := by kernel_rfl
theorem count_c11 : ((Rows.fnExactStewCountOfRow.recurses == Try.pinned.checked.prog.recurses 4)) = true := by kernel_rfl
theorem count_c12 : ((Rows.fnExactStewCountOfRow.named == Try.pinned.checked.prog.varsNamed 4)) = true := by kernel_rfl
theorem count_c13 : ((Rows.fnExactStewCountOfRow.maps == (Try.f4.params.toList ++ Rows.fnExactStewCountOfSpec.plain.varTypes Try.pinned.checked.prog).any (Try.pinned.checked.prog.mapsRec ·))) = true := by kernel_rfl
theorem count_c14 : ((Rows.fnExactStewCountOfRow.ifaces == (Try.f4.params.toList ++ Rows.fnExactStewCountOfSpec.plain.varTypes Try.pinned.checked.prog).any (Try.pinned.checked.prog.ifacesRec ·))) = true := by kernel_rfl
theorem count_c15 : ((Rows.fnExactStewCountOfRow.mapsOut == Try.pinned.checked.prog.mapsAmong Try.f4.resultTypes.toList)) = true := by kernel_rfl
theorem count_c16 : ((Rows.fnExactStewCountOfRow.loops == (Try.f4.params.toList ++ Rows.fnExactStewCountOfSpec.plain.varTypes Try.pinned.checked.prog).any (Try.pinned.checked.prog.loopsFrom ·))) = true := by kernel_rfl
theorem count_c17 : ((Rows.fnExactStewCountOfRow.wideKeys == (Try.f4.params.toList ++ Rows.fnExactStewCountOfSpec.plain.varTypes Try.pinned.checked.prog ++ Try.f4.resultTypes.toList).any (Try.pinned.checked.prog.wideKeysFrom ·))) = true := by kernel_rfl
theorem count_c18 : (Rows.fnExactStewCountOfSpec.vars.all (Try.pinned.checked.prog.varReadable ·)) = true := by kernel_rfl
theorem count_c19 : (Try.f4.resultTypes.all (fun t => Try.pinned.checked.prog.readableRec t && decide (t < Try.pinned.checked.prog.types.size))) = true := by kernel_rfl
theorem count_c20 : ((Rows.fnExactStewCountOfRow.ifacesOut == Try.f4.resultTypes.toList.any (Try.pinned.checked.prog.ifacesRec ·))) = true := by kernel_rfl
theorem count_c21 : ((Rows.fnExactStewCountOfRow.loopsOut == Try.f4.resultTypes.toList.any (Try.pinned.checked.prog.loopsFrom ·))) = true := by kernel_rfl
theorem count_c22 : ((Rows.fnExactStewCountOfRow.plainKeys == Try.pinned.checked.prog.plainKeys)) = true := by kernel_rfl
theorem count_c23 : (Rows.fnExactStewCountOfRow.shortTexts.isNone) = true := by kernel_rfl
theorem count_c24 : (Try.pinned.checked.prog.stopsHeard) = true := by kernel_rfl
theorem count_c25 : (Try.pinned.checked.prog.mayEnter) = true := by kernel_rfl
theorem count_c26 : ((Rows.fnExactStewCountOfRow.lifted == Try.pinned.checked.prog.liftsFinal)) = true := by kernel_rfl
theorem count_c27 : ((Try.pinned.checked.prog.make == some Rows.fnExactStewCountOfRow.make)) = true := by kernel_rfl
theorem count_c28 : ((Rows.fnExactStewCountOfRow.kinds == (if Rows.fnExactStewCountOfRow.domain.isEmpty then [] else Try.f4.params.toList.map fun t => match Try.pinned.checked.prog.underlying t with | some (.int k) => some k | _ => none))) = true := by kernel_rfl
theorem count_c29 : ((Rows.fnExactStewCountOfRow.pinned == Rows.fnExactStewCountOfRow.pinnedBy)) = true := by kernel_rfl
theorem count_c30 : ((Rows.fnExactStewCountOfRow.veiled == (Try.f4.params.toList ++ Rows.fnExactStewCountOfSpec.plain.varTypes Try.pinned.checked.prog ++ Try.f4.resultTypes.toList).any (Try.pinned.checked.prog.veiledRec ·))) = true := by kernel_rfl
theorem count_c31 : (Rows.fnExactStewCountOfRow.veiledFits Try.pinned.checked.prog Try.f4.params.toList (Try.f4.params.toList ++ Rows.fnExactStewCountOfSpec.plain.varTypes Try.pinned.checked.prog ++ Try.f4.resultTypes.toList)) = true := by kernel_rfl
set_option maxRecDepth 100000 in
theorem count_closed : joinedFacts Try.pinned.checked.prog 4 Try.f4 Rows.fnExactStewCountOfSpec Rows.fnExactStewCountOfRow = true := and_t (and_t (and_t (and_t (and_t (and_t (and_t (and_t (and_t (and_t (and_t (and_t (and_t (and_t (and_t (and_t (and_t (and_t (and_t (and_t (and_t (and_t (and_t (and_t (and_t (and_t (and_t (and_t (and_t (and_t (and_t count_c0 count_c1) count_c2) count_c3) count_c4) count_c5) count_c6) count_c7) count_c8) count_c9) count_c10) count_c11) count_c12) count_c13) count_c14) count_c15) count_c16) count_c17) count_c18) count_c19) count_c20) count_c21) count_c22) count_c23) count_c24) count_c25) count_c26) count_c27) count_c28) count_c29) count_c30) count_c31
theorem count_inst : Try.f4.isInstance Try.pinned.checked.prog Rows.fnExactStewCountOfRow.origin Rows.fnExactStewCountOfRow.targs := of_decide_eq_true (by kernel_rfl)
theorem count_wrap : Try.f4.isWrapper Try.pinned.checked.prog Rows.fnExactStewCountOfRow.wrapper Rows.fnExactStewCountOfRow.mainSum := by unfold Func.isWrapper; first | (rw [if_pos (by decide +kernel)]; kernel_rfl) | (rw [if_neg (by decide +kernel)]; exact ⟨rfl, rfl⟩)
theorem count_holds : Rows.FnExactStewCountOfSaid :=
  OpenClaim.holds_of_wide 4 Try.f4 rfl rfl rfl rfl rfl rfl rfl ⟨rfl, rfl, rfl, rfl, rfl⟩ rfl rfl rfl rfl rfl count_named Try.func4 count_closed count_inst count_wrap
    (fun os started H enc _ => count_lifted os started H enc)
end Go.Proofs.Ytemggnmooiaokaa
