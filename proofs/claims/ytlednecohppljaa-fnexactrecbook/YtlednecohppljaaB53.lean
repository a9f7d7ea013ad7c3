import Derived.Test.YtlednecohppljaaB40
import Derived.Test.YtlednecohppljaaB52
namespace Go.Proofs.Ytlednecohppljaa
open Go.ChangeShapes Go.WideShapes Go.ChangeAt Go.RowKit Go.Deep
open Go.ChangeMaps (open_string shut_string)

set_option maxRecDepth 100000 in
theorem rbook_lifted (os : Os) (started : os.Started) (H : Type) (enc : TypeId × Value → H) :
    ReturnsInHanded {} Try.checked os 4 .any (Rows.fnExactRecBookSpec.pre6 enc Try.prog Try.f4 Rows.fnExactRecBookRow.domain false) (Rows.fnExactRecBookSpec.post enc Try.prog Try.f4 false true false false) := by
  refine returnsInHanded_of_change (C := Try.checked) Try.own started (by kernel_rfl) Try.func4
    (ChangeSpec.witness6 (enc := enc) (C := Try.checked) false ⟨#[], #[.agg #[.int .i64 0, .int .i64 0, .bool false, .int .i64 0, .int .i64 0, .slice none 0 0, .int .i64 0, .int .i64 0, .slice none 0 0, .slice none 0 0, .slice none 0 0, .bool false, .bool false, .int .i64 0, .slice none 0 0, .slice none 0 0, .slice none 0 0, .int .i64 0]], []⟩ 8 (by kernel_rfl) (by kernel_rfl) (by kernel_rfl) (by kernel_rfl)) ?_
  intro W base args ds gs before hval0 hW hcnd _
  have hval : ∀ (j : Nat) t v, Try.f4.params[j]? = some t → args[j]? = some v → Value.okWide Try.prog W .any base t v := hval0
  have hW' := hW
  obtain ⟨p, q, hA0, hV, rfl, hfz, hnd⟩ := hW
  have hA : DataW.TrodAll enc Try.prog W 0 (fun _ => true) true Try.f4.params.toList args.toList ds p := hA0
  rw [Try.params4] at hA hval
  obtain ⟨v0, d0, rfl, rfl, h0⟩ := trodAll_one hA
  obtain ⟨rfl, rfl⟩ := trodVars_none hV
  have h0k := h0
  clear hA0 hval0
  simp only [List.append_nil] at hW'
  have hlt0 : ∀ x ∈ p, x.block < W.heap.size := fun x hx => by simpa using hW'.lt x (by simp [hx])
  obtain ⟨cs, U, rfl, hU⟩ := open_Rr (hval 0 37 v0 rfl rfl) h0
  refine (law_book cs U (bookL U) W hU (fun hn => ⟨Nat.le_trans (bookL_len U) hn.2.1.1, fun cs w h => specBook_any cs U w h hn⟩) (fun cs w h => implBook_any cs U w h)).mono fun e W' ⟨he, hb⟩ => ?_
  subst he
  have hargs0 := Below.trod Try.laidOut (by kernel_rfl) (of_decide_eq_true (by kernel_rfl)) h0k hb hlt0
  exact ⟨_, rfl, ⟨_, _, _, [], _, [], hW', trodAll_mk1 (shut_bool Try.underlying4 true), trodAll_mk1 hargs0, rfl, hb.frame _, fun h => by cases h⟩⟩

theorem rbook_named : Try.pinned.checked.prog.funcNamed Rows.fnExactRecBookRow.func = some 4 := by kernel_rfl
theorem and_t {a b : Bool} (ha : a = true) (hb : b = true) : (a && b) = true := by rw [ha, hb]; rfl
theorem rbook_c0 : (Rows.fnExactRecBookRow.wf (OpenSpec.ofChange Rows.fnExactRecBookSpec)) = true := by kernel_rfl
theorem rbook_c1 : (laidOutB Try.pinned.checked.prog) = true := by kernel_rfl
theorem rbook_c2 : (mapsRowed Try.pinned.checked.prog) = true := by kernel_rfl
theorem rbook_c3 : (Try.f4.params.all (Try.pinned.checked.prog.readableRec ·)) = true := by kernel_rfl
theorem rbook_c4 : (namedTie Try.pinned.checked.prog Rows.fnExactRecBookRow.named Rows.fnExactRecBookSpec.vars) = true := by kernel_rfl
theorem rbook_c5 : ((Rows.fnExactRecBookRow.stops == [])) = true := by kernel_rfl
theorem rbook_c6 : ((Try.pinned.checked.prog.stops == [])) = true := by kernel_rfl
theorem rbook_c7 : ((Rows.fnExactRecBookRow.knobs == [])) = true := by kernel_rfl
theorem rbook_c8 : ((Try.pinned.checked.prog.stopKnobs == [])) = true := by kernel_rfl
theorem rbook_c9 : ((Rows.fnExactRecBookRow.inPlace == Try.pinned.checked.prog.inPlace 4)) = true := by kernel_rfl
theorem rbook_c10 : ((Rows.fnExactRecBookRow.unfollowed == Try.pinned.checked.prog.unfollowed 4)) = true := by kernel_rfl
theorem rbook_c11 : ((Rows.fnExactRecBookRow.recurses == Try.pinned.checked.prog.recurses 4)) = true := by kernel_rfl
theorem rbook_c12 : ((Rows.fnExactRecBookRow.named == Try.pinned.checked.prog.varsNamed 4)) = true := by kernel_rfl
theorem rbook_c13 : ((Rows.fnExactRecBookRow.maps == (Try.f4.params.toList ++ Rows.fnExactRecBookSpec.plain.varTypes Try.pinned.checked.prog).any (Try.pinned.checked.prog.mapsRec ·))) = true := by kernel_rfl
theorem rbook_c14 : ((Rows.fnExactRecBookRow.ifaces == (Try.f4.params.toList ++ Rows.fnExactRecBookSpec.plain.varTypes Try.pinned.checked.prog).any (Try.pinned.checked.prog.ifacesRec ·))) = true := by kernel_rfl
theorem rbook_c15 : ((Rows.fnExactRecBookRow.mapsOut == Try.pinned.checked.prog.mapsAmong Try.f4.resultTypes.toList)) = true := by kernel_rfl
theorem rbook_c16 : ((Rows.fnExactRecBookRow.loops == (Try.f4.params.toList ++ Rows.fnExactRecBookSpec.plain.varTypes Try.pinned.checked.prog).any (Try.pinned.checked.prog.loopsFrom ·))) = true := by kernel_rfl
theorem rbook_c17 : ((Rows.fnExactRecBookRow.wideKeys == (Try.f4.params.toList ++ Rows.fnExactRecBookSpec.plain.varTypes Try.pinned.checked.prog ++ Try.f4.resultTypes.toList).any (Try.pinned.checked.prog.wideKeysFrom ·))) = true := by kernel_rfl
theorem rbook_c18 : (Rows.fnExactRecBookSpec.vars.all (Try.pinned.checked.prog.varReadable ·)) = true := by kernel_rfl
theorem rbook_c19 : (Try.f4.resultTypes.all (fun t => Try.pinned.checked.prog.readableRec t && decide (t < Try.pinned.checked.prog.types.size))) = true := by kernel_rfl
theorem rbook_c20 : ((Rows.fnExactRecBookRow.ifacesOut == Try.f4.resultTypes.toList.any (Try.pinned.checked.prog.ifacesRec ·))) = true := by kernel_rfl
theorem rbook_c21 : ((Rows.fnExactRecBookRow.loopsOut == Try.f4.resultTypes.toList.any (Try.pinned.checked.prog.loopsFrom ·))) = true := by kernel_rfl
theorem rbook_c22 : ((Rows.fnExactRecBookRow.plainKeys == Try.pinned.checked.prog.plainKeys)) = true := by kernel_rfl
theorem rbook_c23 : (Rows.fnExactRecBookRow.shortTexts.isNone) = true := by kernel_rfl
theorem rbook_c24 : (Try.pinned.checked.prog.stopsHeard) = true := by kernel_rfl
theorem rbook_c25 : (Try.pinned.checked.prog.mayEnter) = true := by kernel_rfl
theorem rbook_c26 : ((Rows.fnExactRecBookRow.lifted == Try.pinned.checked.prog.liftsFinal)) = true := by kernel_rfl
theorem rbook_c27 : ((Try.pinned.checked.prog.make == some Rows.fnExactRecBookRow.make)) = true := by kernel_rfl
theorem rbook_c28 : ((Rows.fnExactRecBookRow.kinds == (if Rows.fnExactRecBookRow.domain.isEmpty then [] else Try.f4.params.toList.map fun t => match Try.pinned.checked.prog.underlying t with | some (.int k) => some k | _ => none))) = true := by kernel_rfl
theorem rbook_c29 : ((Rows.fnExactRecBookRow.pinned == Rows.fnExactRecBookRow.pinnedBy)) = true := by kernel_rfl
theorem rbook_c30 : ((Rows.fnExactRecBookRow.veiled == (Try.f4.params.toList ++ Rows.fnExactRecBookSpec.plain.varTypes Try.pinned.checked.prog ++ Try.f4.resultTypes.toList).any (Try.pinned.checked.prog.veiledRec ·))) = true := by kernel_rfl
theorem rbook_c31 : (Rows.fnExactRecBookRow.veiledFits Try.pinned.checked.prog Try.f4.params.toList (Try.f4.params.toList ++ Rows.fnExactRecBookSpec.plain.varTypes Try.pinned.checked.prog ++ Try.f4.resultTypes.toList)) = true := by kernel_rfl
set_option maxRecDepth 100000 in
theorem rbook_closed : joinedFacts Try.pinned.checked.prog 4 Try.f4 Rows.fnExactRecBookSpec Rows.fnExactRecBookRow = true := and_t (and_t (and_t (and_t (and_t (and_t (and_t (and_t (and_t (and_t (and_t (and_t (and_t (and_t (and_t (and_t (and_t (and_t (and_t (and_t (and_t (and_t (and_t (and_t (and_t (and_t (and_t (and_t (and_t (and_t (and_t rbook_c0 rbook_c1) rbook_c2) rbook_c3) rbook_c4) rbook_c5) rbook_c6) rbook_c7) rbook_c8) rbook_c9) rbook_c10) rbook_c11) rbook_c12) rbook_c13) rbook_c14) rbook_c15) rbook_c16) rbook_c17) rbook_c18) rbook_c19) rbook_c20) rbook_c21) rbook_c22) rbook_c23) rbook_c24) rbook_c25) rbook_c26) rbook_c27) rbook_c28) rbook_c29) rbook_c30) rbook_c31
theorem rbook_inst : Try.f4.isInstance Try.pinned.checked.prog Rows.fnExactRecBookRow.origin Rows.fnExactRecBookRow.targs := of_decide_eq_true (by kernel_rfl)
theorem rbook_wrap : Try.f4.isWrapper Try.pinned.checked.prog Rows.fnExactRecBookRow.wrapper Rows.fnExactRecBookRow.mainSum := by unfold Func.isWrapper; first | (rw [if_pos (by decide +kernel)]; kernel_rfl) | (rw [if_neg (by decide +kernel)]; exact ⟨rfl, rfl⟩)
theorem rbook_holds : Rows.FnExactRecBookSaid :=
  OpenClaim.holds_of_wide 4 Try.f4 rfl rfl rfl rfl rfl rfl rfl ⟨rfl, rfl, rfl, rfl, rfl⟩ rfl rfl rfl rfl rfl rbook_named Try.func4 rbook_closed rbook_inst rbook_wrap
    (fun os started H enc _ => rbook_lifted os started H enc)
end Go.Proofs.Ytlednecohppljaa
