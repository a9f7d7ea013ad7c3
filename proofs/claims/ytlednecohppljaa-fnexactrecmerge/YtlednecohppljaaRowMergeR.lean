
import Derived.Test.YtlednecohppljaaLMergeR
import Derived.Test.YtlednecohppljaaOpR4
namespace Go.Proofs.Ytlednecohppljaa
open Go.ChangeShapes Go.WideShapes Go.ChangeAt Go.RowKit Go.Deep
open Go.ChangeMaps (open_string shut_string)

set_option maxRecDepth 100000 in
theorem rmerge_lifted (os : Os) (started : os.Started) (H : Type) (enc : TypeId × Value → H) :
    ReturnsInHanded {} Try.checked os 3 .any (Rows.fnExactRecMergeSpec.pre6 enc Try.prog Try.f3 Rows.fnExactRecMergeRow.domain false) (Rows.fnExactRecMergeSpec.post enc Try.prog Try.f3 false true false false) := by
  refine returnsInHanded_of_change (C := Try.checked) Try.own started (by kernel_rfl) Try.func3
    (ChangeSpec.witness6 (enc := enc) (C := Try.checked) false ⟨#[], #[.slice none 0 0, .slice none 0 0], []⟩ 8 (by kernel_rfl) (by kernel_rfl) (by kernel_rfl) (by kernel_rfl)) ?_
  intro W base args ds gs before hval0 hW hcnd _
  have hval : ∀ (j : Nat) t v, Try.f3.params[j]? = some t → args[j]? = some v → Value.okWide Try.prog W .any base t v := hval0
  have hW' := hW
  obtain ⟨p, q, hA0, hV, rfl, hfz, hnd⟩ := hW
  have hA : DataW.TrodAll enc Try.prog W 0 (fun _ => true) true Try.f3.params.toList args.toList ds p := hA0
  rw [Try.params3] at hA hval
  obtain ⟨v0, v1, d0, d1, p0, p1, rfl, rfl, rfl, h0, h1⟩ := trodAll_two hA
  obtain ⟨rfl, rfl⟩ := trodVars_none hV
  have h0k := h0
  have h1k := h1
  clear hA0 hval0
  simp only [List.append_nil] at hW'
  have hlt0 : ∀ x ∈ p0, x.block < W.heap.size := fun x hx => by simpa using hW'.lt x (by simp [hx])
  have hlt1 : ∀ x ∈ p1, x.block < W.heap.size := fun x hx => by simpa using hW'.lt x (by simp [hx])
  obtain ⟨LA, hLA⟩ := open_Rsv (hval 0 22 v0 rfl rfl) h0
  obtain ⟨LB, hLB⟩ := open_Rsv (hval 1 22 v1 rfl rfl) h1
  refine (law_merge v0 v1 LA LB W hLA hLB).mono fun e W' ⟨he, hb⟩ => ?_
  subst he
  have hargs0 := Below.trod Try.laidOut (by kernel_rfl) (of_decide_eq_true (by kernel_rfl)) h0k hb hlt0
  have hargs1 := Below.trod Try.laidOut (by kernel_rfl) (of_decide_eq_true (by kernel_rfl)) h1k hb hlt1
  exact ⟨_, rfl, ⟨_, _, _, [], _, [], hW', trodAll_mk1 (shut_bool Try.underlying4 true), trodAll_mk2 hargs0 hargs1, rfl, hb.frame _, fun h => by cases h⟩⟩

theorem rmerge_named : Try.pinned.checked.prog.funcNamed Rows.fnExactRecMergeRow.func = some 3 := by kernel_rfl
theorem and_t {a b : Bool} (ha : a = true) (hb : b = true) : (a && b) = true := by rw [ha, hb]; rfl
theorem rmerge_c0 : (Rows.fnExactRecMergeRow.wf (OpenSpec.ofChange Rows.fnExactRecMergeSpec)) = true := by kernel_rfl
theorem rmerge_c1 : (laidOutB Try.pinned.checked.prog) = true := by kernel_rfl
theorem rmerge_c2 : (mapsRowed Try.pinned.checked.prog) = true := by kernel_rfl
theorem rmerge_c3 : (Try.f3.params.all (Try.pinned.checked.prog.readableRec ·)) = true := by kernel_rfl
theorem rmerge_c4 : (namedTie Try.pinned.checked.prog Rows.fnExactRecMergeRow.named Rows.fnExactRecMergeSpec.vars) = true := by kernel_rfl
theorem rmerge_c5 : ((Rows.fnExactRecMergeRow.stops == [])) = true := by kernel_rfl
theorem rmerge_c6 : ((Try.pinned.checked.prog.stops == [])) = true := by kernel_rfl
theorem rmerge_c7 : ((Rows.fnExactRecMergeRow.knobs == [])) = true := by kernel_rfl
theorem rmerge_c8 : ((Try.pinned.checked.prog.stopKnobs == [])) = true := by kernel_rfl
theorem rmerge_c9 : ((Rows.fnExactRecMergeRow.inPlace == Try.pinned.checked.prog.inPlace 3)) = true := by kernel_rfl
theorem rmerge_c10 : ((Rows.fnExactRecMergeRow.unfollowed == Try.pinned.checked.prog.unfollowed 3)) = true := by kernel_rfl
theorem rmerge_c11 : ((Rows.fnExactRecMergeRow.recurses == Try.pinned.checked.prog.recurses 3)) = true := by kernel_rfl
theorem rmerge_c12 : ((Rows.fnExactRecMergeRow.named == Try.pinned.checked.prog.varsNamed 3)) = true := by kernel_rfl
theorem rmerge_c13 : ((Rows.fnExactRecMergeRow.maps == (Try.f3.params.toList ++ Rows.fnExactRecMergeSpec.plain.varTypes Try.pinned.checked.prog).any (Try.pinned.checked.prog.mapsRec ·))) = true := by kernel_rfl
theorem rmerge_c14 : ((Rows.fnExactRecMergeRow.ifaces == (Try.f3.params.toList ++ Rows.fnExactRecMergeSpec.plain.varTypes Try.pinned.checked.prog).any (Try.pinned.checked.prog.ifacesRec ·))) = true := by kernel_rfl
theorem rmerge_c15 : ((Rows.fnExactRecMergeRow.mapsOut == Try.pinned.checked.prog.mapsAmong Try.f3.resultTypes.toList)) = true := by kernel_rfl
theorem rmerge_c16 : ((Rows.fnExactRecMergeRow.loops == (Try.f3.params.toList ++ Rows.fnExactRecMergeSpec.plain.varTypes Try.pinned.checked.prog).any (Try.pinned.checked.prog.loopsFrom ·))) = true := by kernel_rfl
theorem rmerge_c17 : ((Rows.fnExactRecMergeRow.wideKeys == (Try.f3.params.toList ++ Rows.fnExactRecMergeSpec.plain.varTypes Try.pinned.checked.prog ++ Try.f3.resultTypes.toList).any (Try.pinned.checked.prog.wideKeysFrom ·))) = true := by kernel_rfl
theorem rmerge_c18 : (Rows.fnExactRecMergeSpec.vars.all (Try.pinned.checked.prog.varReadable ·)) = true := by kernel_rfl
theorem rmerge_c19 : (Try.f3.resultTypes.all (fun t => Try.pinned.checked.prog.readableRec t && decide (t < Try.pinned.checked.prog.types.size))) = true := by kernel_rfl
theorem rmerge_c20 : ((Rows.fnExactRecMergeRow.ifacesOut == Try.f3.resultTypes.toList.any (Try.pinned.checked.prog.ifacesRec ·))) = true := by kernel_rfl
theorem rmerge_c21 : ((Rows.fnExactRecMergeRow.loopsOut == Try.f3.resultTypes.toList.any (Try.pinned.checked.prog.loopsFrom ·))) = true := by kernel_rfl
theorem rmerge_c22 : ((Rows.fnExactRecMergeRow.plainKeys == Try.pinned.checked.prog.plainKeys)) = true := by kernel_rfl
theorem rmerge_c23 : (Rows.fnExactRecMergeRow.shortTexts.isNone) = true := by kernel_rfl
theorem rmerge_c24 : (Try.pinned.checked.prog.stopsHeard) = true := by kernel_rfl
theorem rmerge_c25 : (Try.pinned.checked.prog.mayEnter) = true := by kernel_rfl
theorem rmerge_c26 : ((Rows.fnExactRecMergeRow.lifted == Try.pinned.checked.prog.liftsFinal)) = true := by kernel_rfl
theorem rmerge_c27 : ((Try.pinned.checked.prog.make == some Rows.fnExactRecMergeRow.make)) = true := by kernel_rfl
theorem rmerge_c28 : ((Rows.fnExactRecMergeRow.kinds == (if Rows.fnExactRecMergeRow.domain.isEmpty then [] else Try.f3.params.toList.map fun t => match Try.pinned.checked.prog.underlying t with | some (.int k) => some k | _ => none))) = true := by kernel_rfl
theorem rmerge_c29 : ((Rows.fnExactRecMergeRow.pinned == Rows.fnExactRecMergeRow.pinnedBy)) = true := by kernel_rfl
theorem rmerge_c30 : ((Rows.fnExactRecMergeRow.veiled == (Try.f3.params.toList ++ Rows.fnExactRecMergeSpec.plain.varTypes Try.pinned.checked.prog ++ Try.f3.resultTypes.toList).any (Try.pinned.checked.prog.veiledRec ·))) = true := by kernel_rfl
theorem rmerge_c31 : (Rows.fnExactRecMergeRow.veiledFits Try.pinned.checked.prog Try.f3.params.toList (Try.f3.params.toList ++ Rows.fnExactRecMergeSpec.plain.varTypes Try.pinned.checked.prog ++ Try.f3.resultTypes.toList)) = true := by kernel_rfl
set_option maxRecDepth 100000 in
theorem rmerge_closed : joinedFacts Try.pinned.checked.prog 3 Try.f3 Rows.fnExactRecMergeSpec Rows.fnExactRecMergeRow = true := and_t (and_t (and_t (and_t (and_t (and_t (and_t (and_t (and_t (and_t (and_t (and_t (and_t (and_t (and_t (and_t (and_t (and_t (and_t (and_t (and_t (and_t (and_t (and_t (and_t (and_t (and_t (and_t (and_t (and_t (and_t rmerge_c0 rmerge_c1) rmerge_c2) rmerge_c3) rmerge_c4) rmerge_c5) rmerge_c6) rmerge_c7) rmerge_c8) rmerge_c9) rmerge_c10) rmerge_c11) rmerge_c12) rmerge_c13) rmerge_c14) rmerge_c15) rmerge_c16) rmerge_c17) rmerge_c18) rmerge_c19) rmerge_c20) rmerge_c21) rmerge_c22) rmerge_c23) rmerge_c24) rmerge_c25) rmerge_c26) rmerge_c27) rmerge_c28) rmerge_c29) rmerge_c30) rmerge_c31
theorem rmerge_inst : Try.f3.isInstance Try.pinned.checked.prog Rows.fnExactRecMergeRow.origin Rows.fnExactRecMergeRow.targs := of_decide_eq_true (by kernel_rfl)
theorem rmerge_wrap : Try.f3.isWrapper Try.pinned.checked.prog Rows.fnExactRecMergeRow.wrapper Rows.fnExactRecMergeRow.mainSum := by unfold Func.isWrapper; first | (rw [if_pos (by decide +kernel)]; kernel_rfl) | (rw [if_neg (by decide +kernel)]; exact ⟨rfl, rfl⟩)
theorem rmerge_holds : Rows.FnExactRecMergeSaid :=
  OpenClaim.holds_of_wide 3 Try.f3 rfl rfl rfl rfl rfl rfl rfl ⟨rfl, rfl, rfl, rfl, rfl⟩ rfl rfl rfl rfl rfl rmerge_named Try.func3 rmerge_closed rmerge_inst rmerge_wrap
    (fun os started H enc _ => rmerge_lifted os started H enc)
end Go.Proofs.Ytlednecohppljaa
