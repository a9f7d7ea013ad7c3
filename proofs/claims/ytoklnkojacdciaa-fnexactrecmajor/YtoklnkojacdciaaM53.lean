import Derived.Test.YtoklnkojacdciaaM47
import Derived.Test.YtoklnkojacdciaaM52
namespace Go.Proofs.Ytoklnkojacdciaa
open Go.ChangeShapes Go.WideShapes Go.ChangeAt Go.RowKit Go.Deep
open Go.ChangeMaps (open_string shut_string)

set_option maxRecDepth 100000 in
theorem rmajor_lifted (os : Os) (started : os.Started) (H : Type) (enc : TypeId × Value → H) :
    ReturnsInHanded {} Try.checked os 5 .any (Rows.fnExactRecMajorSpec.pre6 enc Try.prog Try.f5 Rows.fnExactRecMajorRow.domain false) (Rows.fnExactRecMajorSpec.post enc Try.prog Try.f5 false true false false) := by
  refine returnsInHanded_of_change (C := Try.checked) Try.own started (by kernel_rfl) Try.func5
    (ChangeSpec.witness6 (enc := enc) (C := Try.checked) false ⟨#[], #[.agg #[.slice none 0 0, .slice none 0 0, .slice none 0 0], .int .i64 0], []⟩ 8 (by kernel_rfl) (by kernel_rfl) (by kernel_rfl) (by kernel_rfl)) ?_
  intro W base args ds gs before hval0 hW hcnd _
  have hval : ∀ (j : Nat) t v, Try.f5.params[j]? = some t → args[j]? = some v → Value.okWide Try.prog W .any base t v := hval0
  have hW' := hW
  obtain ⟨p, q, hA0, hV, rfl, hfz, hnd⟩ := hW
  have hA : DataW.TrodAll enc Try.prog W 0 (fun _ => true) true Try.f5.params.toList args.toList ds p := hA0
  rw [Try.params5] at hA hval
  obtain ⟨v0, v1, d0, d1, p0, p1, rfl, rfl, rfl, h0, h1⟩ := trodAll_two hA
  obtain ⟨rfl, rfl⟩ := trodVars_none hV
  have h0k := h0
  obtain ⟨x1, rfl, rfl, rfl, s1⟩ := open_int Try.underlying3 (hval 1 3 v1 rfl rfl) h1
  clear hA0 hval0
  simp only [List.append_nil] at hW'
  have hlt0 : ∀ x ∈ p0, x.block < W.heap.size := fun x hx => by simpa using hW'.lt x (by simp [hx])
  obtain ⟨cs, U, rfl, hU⟩ := open_Wd (hval 0 35 v0 rfl rfl) h0
  refine (law_majorr cs U x1 W hU (fun cs w h => implMajor_any 0 cs U x1 w h)).mono fun e W' ⟨he, hb⟩ => ?_
  subst he
  have hargs0 := Below.trod Try.laidOut (by kernel_rfl) (of_decide_eq_true (by kernel_rfl)) h0k hb hlt0
  exact ⟨_, rfl, ⟨_, _, _, [], _, [], hW', trodAll_mk1 (shut_bool Try.underlying4 true), trodAll_mk2 hargs0 (shut_int Try.underlying3 s1), rfl, hb.frame _, fun h => by cases h⟩⟩

theorem rmajor_named : Try.pinned.checked.prog.funcNamed Rows.fnExactRecMajorRow.func = some 5 := by kernel_rfl
theorem and_t {a b : Bool} (ha : a = true) (hb : b = true) : (a && b) = true := by rw [ha, hb]; rfl
theorem rmajor_c0 : (Rows.fnExactRecMajorRow.wf (OpenSpec.ofChange Rows.fnExactRecMajorSpec)) = true := by kernel_rfl
theorem rmajor_c1 : (laidOutB Try.pinned.checked.prog) = true := by kernel_rfl
theorem rmajor_c2 : (mapsRowed Try.pinned.checked.prog) = true := by kernel_rfl
theorem rmajor_c3 : (Try.f5.params.all (Try.pinned.checked.prog.readableRec ·)) = true := by kernel_rfl
theorem rmajor_c4 : (namedTie Try.pinned.checked.prog Rows.fnExactRecMajorRow.named Rows.fnExactRecMajorSpec.vars) = true := by kernel_rfl
theorem rmajor_c5 : ((Rows.fnExactRecMajorRow.stops == [])) = true := by kernel_rfl
theorem rmajor_c6 : ((Try.pinned.checked.prog.stops == [])) = true := by kernel_rfl
theorem rmajor_c7 : ((Rows.fnExactRecMajorRow.knobs == [])) = true := by kernel_rfl
theorem rmajor_c8 : ((Try.pinned.checked.prog.stopKnobs == [])) = true := by kernel_rfl
theorem rmajor_c9 : ((Rows.fnExactRecMajorRow.inPlace == Try.pinned.checked.prog.inPlace 5)) = true := by kernel_rfl
theorem rmajor_c10 : ((Rows.fnExactRecMajorRow.unfollowed == Try.pinned.checked.prog.unfollowed 5)) = true := by kernel_rfl
theorem rmajor_c11 : ((Rows.fnExactRecMajorRow.recurses == Try.pinned.checked.prog.recurses 5)) = true := by kernel_rfl
theorem rmajor_c12 : ((Rows.fnExactRecMajorRow.named == Try.pinned.checked.prog.varsNamed 5)) = true := by kernel_rfl
theorem rmajor_c13 : ((Rows.fnExactRecMajorRow.maps == (Try.f5.params.toList ++ Rows.fnExactRecMajorSpec.plain.varTypes Try.pinned.checked.prog).any (Try.pinned.checked.prog.mapsRec ·))) = true := by kernel_rfl
theorem rmajor_c14 : ((Rows.fnExactRecMajorRow.ifaces == (Try.f5.params.toList ++ Rows.fnExactRecMajorSpec.plain.varTypes Try.pinned.checked.prog).any (Try.pinned.checked.prog.ifacesRec ·))) = true := by kernel_rfl
theorem rmajor_c15 : ((Rows.fnExactRecMajorRow.mapsOut == Try.pinned.checked.prog.mapsAmong Try.f5.resultTypes.toList)) = true := by kernel_rfl
theorem rmajor_c16 : ((Rows.fnExactRecMajorRow.loops == (Try.f5.params.toList ++ Rows.fnExactRecMajorSpec.plain.varTypes Try.pinned.checked.prog).any (Try.pinned.checked.prog.loopsFrom ·))) = true := by kernel_rfl
theorem rmajor_c17 : ((Rows.fnExactRecMajorRow.wideKeys == (Try.f5.params.toList ++ Rows.fnExactRecMajorSpec.plain.varTypes Try.pinned.checked.prog ++ Try.f5.resultTypes.toList).any (Try.pinned.checked.prog.wideKeysFrom ·))) = true := by kernel_rfl
theorem rmajor_c18 : (Rows.fnExactRecMajorSpec.vars.all (Try.pinned.checked.prog.varReadable ·)) = true := by kernel_rfl
theorem rmajor_c19 : (Try.f5.resultTypes.all (fun t => Try.pinned.checked.prog.readableRec t && decide (t < Try.pinned.checked.prog.types.size))) = true := by kernel_rfl
theorem rmajor_c20 : ((Rows.fnExactRecMajorRow.ifacesOut == Try.f5.resultTypes.toList.any (Try.pinned.checked.prog.ifacesRec ·))) = true := by kernel_rfl
theorem rmajor_c21 : ((Rows.fnExactRecMajorRow.loopsOut == Try.f5.resultTypes.toList.any (Try.pinned.checked.prog.loopsFrom ·))) = true := by kernel_rfl
theorem rmajor_c22 : ((Rows.fnExactRecMajorRow.plainKeys == Try.pinned.checked.prog.plainKeys)) = true := by kernel_rfl
theorem rmajor_c23 : (Rows.fnExactRecMajorRow.shortTexts.isNone) = true := by kernel_rfl
theorem rmajor_c24 : (Try.pinned.checked.prog.stopsHeard) = true := by kernel_rfl
theorem rmajor_c25 : (Try.pinned.checked.prog.mayEnter) = true := by kernel_rfl
theorem rmajor_c26 : ((Rows.fnExactRecMajorRow.lifted == Try.pinned.checked.prog.liftsFinal)) = true := by kernel_rfl
theorem rmajor_c27 : ((Try.pinned.checked.prog.make == some Rows.fnExactRecMajorRow.make)) = true := by kernel_rfl
theorem rmajor_c28 : ((Rows.fnExactRecMajorRow.kinds == (if Rows.fnExactRecMajorRow.domain.isEmpty then [] else Try.f5.params.toList.map fun t => match Try.pinned.checked.prog.underlying t with | some (.int k) => some k | _ => none))) = true := by kernel_rfl
theorem rmajor_c29 : ((Rows.fnExactRecMajorRow.pinned == Rows.fnExactRecMajorRow.pinnedBy)) = true := by kernel_rfl
theorem rmajor_c30 : ((Rows.fnExactRecMajorRow.veiled == (Try.f5.params.toList ++ Rows.fnExactRecMajorSpec.plain.varTypes Try.pinned.checked.prog ++ Try.f5.resultTypes.toList).any (Try.pinned.checked.prog.veiledRec ·))) = true := by kernel_rfl
theorem rmajor_c31 : (Rows.fnExactRecMajorRow.veiledFits Try.pinned.checked.prog Try.f5.params.toList (Try.f5.params.toList ++ Rows.fnExactRecMajorSpec.plain.varTypes Try.pinned.checked.prog ++ Try.f5.resultTypes.toList)) = true := by kernel_rfl
set_option maxRecDepth 100000 in
theorem rmajor_closed : joinedFacts Try.pinned.checked.prog 5 Try.f5 Rows.fnExactRecMajorSpec Rows.fnExactRecMajorRow = true := and_t (and_t (and_t (and_t (and_t (and_t (and_t (and_t (and_t (and_t (and_t (and_t (and_t (and_t (and_t (and_t (and_t (and_t (and_t (and_t (and_t (and_t (and_t (and_t (and_t (and_t (and_t (and_t (and_t (and_t (and_t rmajor_c0 rmajor_c1) rmajor_c2) rmajor_c3) rmajor_c4) rmajor_c5) rmajor_c6) rmajor_c7) rmajor_c8) rmajor_c9) rmajor_c10) rmajor_c11) rmajor_c12) rmajor_c13) rmajor_c14) rmajor_c15) rmajor_c16) rmajor_c17) rmajor_c18) rmajor_c19) rmajor_c20) rmajor_c21) rmajor_c22) rmajor_c23) rmajor_c24) rmajor_c25) rmajor_c26) rmajor_c27) rmajor_c28) rmajor_c29) rmajor_c30) rmajor_c31
theorem rmajor_inst : Try.f5.isInstance Try.pinned.checked.prog Rows.fnExactRecMajorRow.origin Rows.fnExactRecMajorRow.targs := of_decide_eq_true (by kernel_rfl)
theorem rmajor_wrap : Try.f5.isWrapper Try.pinned.checked.prog Rows.fnExactRecMajorRow.wrapper Rows.fnExactRecMajorRow.mainSum := by unfold Func.isWrapper; first | (rw [if_pos (by decide +kernel)]; kernel_rfl) | (rw [if_neg (by decide +kernel)]; exact ⟨rfl, rfl⟩)
theorem rmajor_holds : Rows.FnExactRecMajorSaid :=
  OpenClaim.holds_of_wide 5 Try.f5 rfl rfl rfl rfl rfl rfl rfl ⟨rfl, rfl, rfl, rfl, rfl⟩ rfl rfl rfl rfl rfl rmajor_named Try.func5 rmajor_closed rmajor_inst rmajor_wrap
    (fun os started H enc _ => rmajor_lifted os started H enc)
end Go.Proofs.Ytoklnkojacdciaa
