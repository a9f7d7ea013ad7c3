
import Derived.Test.YtleiaohoocgnlaaLMsgR
import Derived.Test.YtleiaohoocgnlaaOpR
import Derived.Test.YtleiaohoocgnlaaRP2
namespace Go.Proofs.Ytleiaohoocgnlaa
open Go.ChangeShapes Go.WideShapes Go.ChangeAt Go.RowKit Go.Deep
open Go.ChangeMaps (open_string shut_string)

set_option maxRecDepth 100000 in
theorem rmsg_lifted (os : Os) (started : os.Started) (H : Type) (enc : TypeId × Value → H) :
    ReturnsInHanded {} Try.checked os 4 .any (Rows.fnExactRecMessageOkSpec.pre6 enc Try.prog Try.f4 Rows.fnExactRecMessageOkRow.domain false) (Rows.fnExactRecMessageOkSpec.post enc Try.prog Try.f4 false true false false) := by
  refine returnsInHanded_of_change (C := Try.checked) Try.own started (by kernel_rfl) Try.func4
    (ChangeSpec.witness6 (enc := enc) (C := Try.checked) false ⟨#[], #[.agg #[.int .i64 0, .int .i64 0, .int .i64 0, .int .i64 0, .int .i64 0, .int .i64 0, .string .empty, .slice none 0 0], .int .i64 0], []⟩ 8 (by kernel_rfl) (by kernel_rfl) (by kernel_rfl) (by kernel_rfl)) ?_
  intro W base args ds gs before hval0 hW hcnd _
  have hval : ∀ (j : Nat) t v, Try.f4.params[j]? = some t → args[j]? = some v → Value.okWide Try.prog W .any base t v := hval0
  have hW' := hW
  obtain ⟨p, q, hA0, hV, rfl, hfz, hnd⟩ := hW
  have hA : DataW.TrodAll enc Try.prog W 0 (fun _ => true) true Try.f4.params.toList args.toList ds p := hA0
  rw [Try.params4] at hA hval
  obtain ⟨v0, v1, d0, d1, p0, p1, rfl, rfl, rfl, h0, h1⟩ := trodAll_two hA
  obtain ⟨rfl, rfl⟩ := trodVars_none hV
  have h0k := h0
  obtain ⟨x1, rfl, rfl, rfl, s1⟩ := open_int Try.underlying3 (hval 1 3 v1 rfl rfl) h1
  clear hA0 hval0
  simp only [List.append_nil] at hW'
  have hlt0 : ∀ x ∈ p0, x.block < W.heap.size := fun x hx => by simpa using hW'.lt x (by simp [hx])
  obtain ⟨cs, U, rfl, hU⟩ := open_Rm (hval 0 34 v0 rfl rfl) h0
  refine (law_msg cs U x1 W hU (fun cs w h => implMsg_any 0 cs U x1 w h)).mono fun e W' ⟨he, hb⟩ => ?_
  subst he
  have hargs0 := Below.trod Try.laidOut (by kernel_rfl) (of_decide_eq_true (by kernel_rfl)) h0k hb hlt0
  exact ⟨_, rfl, ⟨_, _, _, [], _, [], hW', trodAll_mk1 (shut_bool Try.underlying4 true), trodAll_mk2 hargs0 (shut_int Try.underlying3 s1), rfl, hb.frame _, fun h => by cases h⟩⟩

theorem rmsg_named : Try.pinned.checked.prog.funcNamed Rows.fnExactRecMessageOkRow.func = some 4 := by kernel_rfl
theorem and_t {a b : Bool} (ha : a = true) (hb : b = true) : (a && b) = true := by rw [ha, hb]; rfl
theorem rmsg_c0 : (Rows.fnExactRecMessageOkRow.wf (OpenSpec.ofChange Rows.fnExactRecMessageOkSpec)) = true := by kernel_rfl
theorem rmsg_c1 : (laidOutB Try.pinned.checked.prog) = true := by kernel_rfl
theorem rmsg_c2 : (mapsRowed Try.pinned.checked.prog) = true := by kernel_rfl
theorem rmsg_c3 : (Try.f4.params.all (Try.pinned.checked.prog.readableRec ·)) = true := by kernel_rfl
theorem rmsg_c4 : (namedTie Try.pinned.checked.prog Rows.fnExactRecMessageOkRow.named Rows.fnExactRecMessageOkSpec.vars) = true := by kernel_rfl
theorem rmsg_c5 : ((Rows.fnExactRecMessageOkRow.stops == [])) = true := by kernel_rfl
theorem rmsg_c6 : ((Try.pinned.checked.prog.stops == [])) = true := by kernel_rfl
theorem rmsg_c7 : ((Rows.fnExactRecMessageOkRow.knobs == [])) = true := by kernel_rfl
theorem rmsg_c8 : ((Try.pinned.checked.prog.stopKnobs == [])) = true := by kernel_rfl
theorem rmsg_c9 : ((Rows.fnExactRecMessageOkRow.inPlace == Try.pinned.checked.prog.inPlace 4)) = true := by kernel_rfl
theorem rmsg_c10 : ((Rows.fnExactRecMessageOkRow.unfollowed == Try.pinned.checked.prog.unfollowed 4)) = true := by kernel_rfl
theorem rmsg_c11 : ((Rows.fnExactRecMessageOkRow.recurses == Try.pinned.checked.prog.recurses 4)) = true := by kernel_rfl
theorem rmsg_c12 : ((Rows.fnExactRecMessageOkRow.named == Try.pinned.checked.prog.varsNamed 4)) = true := by kernel_rfl
theorem rmsg_c13 : ((Rows.fnExactRecMessageOkRow.maps == (Try.f4.params.toList ++ Rows.fnExactRecMessageOkSpec.plain.varTypes Try.pinned.checked.prog).any (Try.pinned.checked.prog.mapsRec ·))) = true := by kernel_rfl
theorem rmsg_c14 : ((Rows.fnExactRecMessageOkRow.ifaces == (Try.f4.params.toList ++ Rows.fnExactRecMessageOkSpec.plain.varTypes Try.pinned.checked.prog).any (Try.pinned.checked.prog.ifacesRec ·))) = true := by kernel_rfl
theorem rmsg_c15 : ((Rows.fnExactRecMessageOkRow.mapsOut == Try.pinned.checked.prog.mapsAmong Try.f4.resultTypes.toList)) = true := by kernel_rfl
theorem rmsg_c16 : ((Rows.fnExactRecMessageOkRow.loops == (Try.f4.params.toList ++ Rows.fnExactRecMessageOkSpec.plain.varTypes Try.pinned.checked.prog).any (Try.pinned.checked.prog.loopsFrom ·))) = true := by kernel_rfl
theorem rmsg_c17 : ((Rows.fnExactRecMessageOkRow.wideKeys == (Try.f4.params.toList ++ Rows.fnExactRecMessageOkSpec.plain.varTypes Try.pinned.checked.prog ++ Try.f4.resultTypes.toList).any (Try.pinned.checked.prog.wideKeysFrom ·))) = true := by kernel_rfl
theorem rmsg_c18 : (Rows.fnExactRecMessageOkSpec.vars.all (Try.pinned.checked.prog.varReadable ·)) = true := by kernel_rfl
theorem rmsg_c19 : (Try.f4.resultTypes.all (fun t => Try.pinned.checked.prog.readableRec t && decide (t < Try.pinned.checked.prog.types.size))) = true := by kernel_rfl
theorem rmsg_c20 : ((Rows.fnExactRecMessageOkRow.ifacesOut == Try.f4.resultTypes.toList.any (Try.pinned.checked.prog.ifacesRec ·))) = true := by kernel_rfl
theorem rmsg_c21 : ((Rows.fnExactRecMessageOkRow.loopsOut == Try.f4.resultTypes.toList.any (Try.pinned.checked.prog.loopsFrom ·))) = true := by kernel_rfl
theorem rmsg_c22 : ((Rows.fnExactRecMessageOkRow.plainKeys == Try.pinned.checked.prog.plainKeys)) = true := by kernel_rfl
theorem rmsg_c23 : (Rows.fnExactRecMessageOkRow.shortTexts.isNone) = true := by kernel_rfl
theorem rmsg_c24 : (Try.pinned.checked.prog.stopsHeard) = true := by kernel_rfl
theorem rmsg_c25 : (Try.pinned.checked.prog.mayEnter) = true := by kernel_rfl
theorem rmsg_c26 : ((Rows.fnExactRecMessageOkRow.lifted == Try.pinned.checked.prog.liftsFinal)) = true := by kernel_rfl
theorem rmsg_c27 : ((Try.pinned.checked.prog.make == some Rows.fnExactRecMessageOkRow.make)) = true := by kernel_rfl
theorem rmsg_c28 : ((Rows.fnExactRecMessageOkRow.kinds == (if Rows.fnExactRecMessageOkRow.domain.isEmpty then [] else Try.f4.params.toList.map fun t => match Try.pinned.checked.prog.underlying t with | some (.int k) => some k | _ => none))) = true := by kernel_rfl
theorem rmsg_c29 : ((Rows.fnExactRecMessageOkRow.pinned == Rows.fnExactRecMessageOkRow.pinnedBy)) = true := by kernel_rfl
theorem rmsg_c30 : ((Rows.fnExactRecMessageOkRow.veiled == (Try.f4.params.toList ++ Rows.fnExactRecMessageOkSpec.plain.varTypes Try.pinned.checked.prog ++ Try.f4.resultTypes.toList).any (Try.pinned.checked.prog.veiledRec ·))) = true := by kernel_rfl
theorem rmsg_c31 : (Rows.fnExactRecMessageOkRow.veiledFits Try.pinned.checked.prog Try.f4.params.toList (Try.f4.params.toList ++ Rows.fnExactRecMessageOkSpec.plain.varTypes Try.pinned.checked.prog ++ Try.f4.resultTypes.toList)) = true := by kernel_rfl
set_option maxRecDepth 100000 in
theorem rmsg_closed : joinedFacts Try.pinned.checked.prog 4 Try.f4 Rows.fnExactRecMessageOkSpec Rows.fnExactRecMessageOkRow = true := and_t (and_t (and_t (and_t (and_t (and_t (and_t (and_t (and_t (and_t (and_t (and_t (and_t (and_t (and_t (and_t (and_t (and_t (and_t (and_t (and_t (and_t (and_t (and_t (and_t (and_t (and_t (and_t (and_t (and_t (and_t rmsg_c0 rmsg_c1) rmsg_c2) rmsg_c3) rmsg_c4) rmsg_c5) rmsg_c6) rmsg_c7) rmsg_c8) rmsg_c9) rmsg_c10) rmsg_c11) rmsg_c12) rmsg_c13) rmsg_c14) rmsg_c15) rmsg_c16) rmsg_c17) rmsg_c18) rmsg_c19) rmsg_c20) rmsg_c21) rmsg_c22) rmsg_c23) rmsg_c24) rmsg_c25) rmsg_c26) rmsg_c27) rmsg_c28) rmsg_c29) rmsg_c30) rmsg_c31
theorem rmsg_inst : Try.f4.isInstance Try.pinned.checked.prog Rows.fnExactRecMessageOkRow.origin Rows.fnExactRecMessageOkRow.targs := of_decide_eq_true (by kernel_rfl)
theorem rmsg_wrap : Try.f4.isWrapper Try.pinned.checked.prog Rows.fnExactRecMessageOkRow.wrapper Rows.fnExactRecMessageOkRow.mainSum := by unfold Func.isWrapper; first | (rw [if_pos (by decide +kernel)]; kernel_rfl) | (rw [if_neg (by decide +kernel)]; exact ⟨rfl, rfl⟩)
theorem rmsg_holds : Rows.FnExactRecMessageOkSaid :=
  OpenClaim.holds_of_wide 4 Try.f4 rfl rfl rfl rfl rfl rfl rfl ⟨rfl, rfl, rfl, rfl, rfl⟩ rfl rfl rfl rfl rfl rmsg_named Try.func4 rmsg_closed rmsg_inst rmsg_wrap
    (fun os started H enc _ => rmsg_lifted os started H enc)
end Go.Proofs.Ytleiaohoocgnlaa
