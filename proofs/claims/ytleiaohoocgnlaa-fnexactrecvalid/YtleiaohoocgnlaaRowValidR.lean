
import Derived.Test.YtleiaohoocgnlaaLValidR
import Derived.Test.YtleiaohoocgnlaaOpR3
import Derived.Test.YtleiaohoocgnlaaRP9
namespace Go.Proofs.Ytleiaohoocgnlaa
open Go.ChangeShapes Go.WideShapes Go.ChangeAt Go.RowKit Go.Deep
open Go.ChangeMaps (open_string shut_string)

set_option maxRecDepth 100000 in
theorem rvalid_lifted (os : Os) (started : os.Started) (H : Type) (enc : TypeId × Value → H) :
    ReturnsInHanded {} Try.checked os 5 .any (Rows.fnExactRecValidSpec.pre6 enc Try.prog Try.f5 Rows.fnExactRecValidRow.domain false) (Rows.fnExactRecValidSpec.post enc Try.prog Try.f5 false true false false) := by
  refine returnsInHanded_of_change (C := Try.checked) Try.own started (by kernel_rfl) Try.func5
    (ChangeSpec.witness6 (enc := enc) (C := Try.checked) false ⟨#[], #[.agg #[.int .i64 0, .int .i64 0, .bool false, .int .i64 0, .int .i64 0, .slice none 0 0, .int .i64 0, .int .i64 0, .slice none 0 0, .slice none 0 0, .slice none 0 0, .bool false, .bool false, .int .i64 0, .slice none 0 0, .slice none 0 0, .slice none 0 0, .int .i64 0]], []⟩ 8 (by kernel_rfl) (by kernel_rfl) (by kernel_rfl) (by kernel_rfl)) ?_
  intro W base args ds gs before hval0 hW hcnd _
  have hval : ∀ (j : Nat) t v, Try.f5.params[j]? = some t → args[j]? = some v → Value.okWide Try.prog W .any base t v := hval0
  have hW' := hW
  obtain ⟨p, q, hA0, hV, rfl, hfz, hnd⟩ := hW
  have hA : DataW.TrodAll enc Try.prog W 0 (fun _ => true) true Try.f5.params.toList args.toList ds p := hA0
  rw [Try.params5] at hA hval
  obtain ⟨v0, d0, rfl, rfl, h0⟩ := trodAll_one hA
  obtain ⟨rfl, rfl⟩ := trodVars_none hV
  have h0k := h0
  clear hA0 hval0
  simp only [List.append_nil] at hW'
  have hlt0 : ∀ x ∈ p, x.block < W.heap.size := fun x hx => by simpa using hW'.lt x (by simp [hx])
  obtain ⟨cs, U, rfl, hU⟩ := open_Rr (hval 0 47 v0 rfl rfl) h0
  refine (law_valid cs U (validR U) W hU (fun hn cs w h => specValidR_any 0 cs U w h hn) (fun hn cs w h => implValidR_any 0 cs U w h)).mono fun e W' ⟨he, hb⟩ => ?_
  subst he
  have hargs0 := Below.trod Try.laidOut (by kernel_rfl) (of_decide_eq_true (by kernel_rfl)) h0k hb hlt0
  exact ⟨_, rfl, ⟨_, _, _, [], _, [], hW', trodAll_mk1 (shut_bool Try.underlying4 true), trodAll_mk1 hargs0, rfl, hb.frame _, fun h => by cases h⟩⟩

theorem rvalid_named : Try.pinned.checked.prog.funcNamed Rows.fnExactRecValidRow.func = some 5 := by kernel_rfl
theorem and_t {a b : Bool} (ha : a = true) (hb : b = true) : (a && b) = true := by rw [ha, hb]; rfl
theorem rvalid_c0 : (Rows.fnExactRecValidRow.wf (OpenSpec.ofChange Rows.fnExactRecValidSpec)) = true := by kernel_rfl
theorem rvalid_c1 : (laidOutB Try.pinned.checked.prog) = true := by kernel_rfl
theorem rvalid_c2 : (mapsRowed Try.pinned.checked.prog) = true := by kernel_rfl
theorem rvalid_c3 : (Try.f5.params.all (Try.pinned.checked.prog.readableRec ·)) = true := by kernel_rfl
theorem rvalid_c4 : (namedTie Try.pinned.checked.prog Rows.fnExactRecValidRow.named Rows.fnExactRecValidSpec.vars) = true := by kernel_rfl
theorem rvalid_c5 : ((Rows.fnExactRecValidRow.stops == [])) = true := by kernel_rfl
theorem rvalid_c6 : ((Try.pinned.checked.prog.stops == [])) = true := by kernel_rfl
theorem rvalid_c7 : ((Rows.fnExactRecValidRow.knobs == [])) = true := by kernel_rfl
theorem rvalid_c8 : ((Try.pinned.checked.prog.stopKnobs == [])) = true := by kernel_rfl
theorem rvalid_c9 : ((Rows.fnExactRecValidRow.inPlace == Try.pinned.checked.prog.inPlace 5)) = true := by kernel_rfl
theorem rvalid_c10 : ((Rows.fnExactRecValidRow.unfollowed == Try.pinned.checked.prog.unfollowed 5)) = true := by kernel_rfl
theorem rvalid_c11 : ((Rows.fnExactRecValidRow.recurses == Try.pinned.checked.prog.recurses 5)) = true := by kernel_rfl
theorem rvalid_c12 : ((Rows.fnExactRecValidRow.named == Try.pinned.checked.prog.varsNamed 5)) = true := by kernel_rfl
theorem rvalid_c13 : ((Rows.fnExactRecValidRow.maps == (Try.f5.params.toList ++ Rows.fnExactRecValidSpec.plain.varTypes Try.pinned.checked.prog).any (Try.pinned.checked.prog.mapsRec ·))) = true := by kernel_rfl
theorem rvalid_c14 : ((Rows.fnExactRecValidRow.ifaces == (Try.f5.params.toList ++ Rows.fnExactRecValidSpec.plain.varTypes Try.pinned.checked.prog).any (Try.pinned.checked.prog.ifacesRec ·))) = true := by kernel_rfl
theorem rvalid_c15 : ((Rows.fnExactRecValidRow.mapsOut == Try.pinned.checked.prog.mapsAmong Try.f5.resultTypes.toList)) = true := by kernel_rfl
theorem rvalid_c16 : ((Rows.fnExactRecValidRow.loops == (Try.f5.params.toList ++ Rows.fnExactRecValidSpec.plain.varTypes Try.pinned.checked.prog).any (Try.pinned.checked.prog.loopsFrom ·))) = true := by kernel_rfl
theorem rvalid_c17 : ((Rows.fnExactRecValidRow.wideKeys == (Try.f5.params.toList ++ Rows.fnExactRecValidSpec.plain.varTypes Try.pinned.checked.prog ++ Try.f5.resultTypes.toList).any (Try.pinned.checked.prog.wideKeysFrom ·))) = true := by kernel_rfl
theorem rvalid_c18 : (Rows.fnExactRecValidSpec.vars.all (Try.pinned.checked.prog.varReadable ·)) = true := by kernel_rfl
theorem rvalid_c19 : (Try.f5.resultTypes.all (fun t => Try.pinned.checked.prog.readableRec t && decide (t < Try.pinned.checked.prog.types.size))) = true := by kernel_rfl
theorem rvalid_c20 : ((Rows.fnExactRecValidRow.ifacesOut == Try.f5.resultTypes.toList.any (Try.pinned.checked.prog.ifacesRec ·))) = true := by kernel_rfl
theorem rvalid_c21 : ((Rows.fnExactRecValidRow.loopsOut == Try.f5.resultTypes.toList.any (Try.pinned.checked.prog.loopsFrom ·))) = true := by kernel_rfl
theorem rvalid_c22 : ((Rows.fnExactRecValidRow.plainKeys == Try.pinned.checked.prog.plainKeys)) = true := by kernel_rfl
theorem rvalid_c23 : (Rows.fnExactRecValidRow.shortTexts.isNone) = true := by kernel_rfl
theorem rvalid_c24 : (Try.pinned.checked.prog.stopsHeard) = true := by kernel_rfl
theorem rvalid_c25 : (Try.pinned.checked.prog.mayEnter) = true := by kernel_rfl
theorem rvalid_c26 : ((Rows.fnExactRecValidRow.lifted == Try.pinned.checked.prog.liftsFinal)) = true := by kernel_rfl
theorem rvalid_c27 : ((Try.pinned.checked.prog.make == some Rows.fnExactRecValidRow.make)) = true := by kernel_rfl
theorem rvalid_c28 : ((Rows.fnExactRecValidRow.kinds == (if Rows.fnExactRecValidRow.domain.isEmpty then [] else Try.f5.params.toList.map fun t => match Try.pinned.checked.prog.underlying t with | some (.int k) => some k | _ => none))) = true := by kernel_rfl
theorem rvalid_c29 : ((Rows.fnExactRecValidRow.pinned == Rows.fnExactRecValidRow.pinnedBy)) = true := by kernel_rfl
theorem rvalid_c30 : ((Rows.fnExactRecValidRow.veiled == (Try.f5.params.toList ++ Rows.fnExactRecValidSpec.plain.varTypes Try.pinned.checked.prog ++ Try.f5.resultTypes.toList).any (Try.pinned.checked.prog.veiledRec ·))) = true := by kernel_rfl
theorem rvalid_c31 : (Rows.fnExactRecValidRow.veiledFits Try.pinned.checked.prog Try.f5.params.toList (Try.f5.params.toList ++ Rows.fnExactRecValidSpec.plain.varTypes Try.pinned.checked.prog ++ Try.f5.resultTypes.toList)) = true := by kernel_rfl
set_option maxRecDepth 100000 in
theorem rvalid_closed : joinedFacts Try.pinned.checked.prog 5 Try.f5 Rows.fnExactRecValidSpec Rows.fnExactRecValidRow = true := and_t (and_t (and_t (and_t (and_t (and_t (and_t (and_t (and_t (and_t (and_t (and_t (and_t (and_t (and_t (and_t (and_t (and_t (and_t (and_t (and_t (and_t (and_t (and_t (and_t (and_t (and_t (and_t (and_t (and_t (and_t rvalid_c0 rvalid_c1) rvalid_c2) rvalid_c3) rvalid_c4) rvalid_c5) rvalid_c6) rvalid_c7) rvalid_c8) rvalid_c9) rvalid_c10) rvalid_c11) rvalid_c12) rvalid_c13) rvalid_c14) rvalid_c15) rvalid_c16) rvalid_c17) rvalid_c18) rvalid_c19) rvalid_c20) rvalid_c21) rvalid_c22) rvalid_c23) rvalid_c24) rvalid_c25) rvalid_c26) rvalid_c27) rvalid_c28) rvalid_c29) rvalid_c30) rvalid_c31
theorem rvalid_inst : Try.f5.isInstance Try.pinned.checked.prog Rows.fnExactRecValidRow.origin Rows.fnExactRecValidRow.targs := of_decide_eq_true (by kernel_rfl)
theorem rvalid_wrap : Try.f5.isWrapper Try.pinned.checked.prog Rows.fnExactRecValidRow.wrapper Rows.fnExactRecValidRow.mainSum := by unfold Func.isWrapper; first | (rw [if_pos (by decide +kernel)]; kernel_rfl) | (rw [if_neg (by decide +kernel)]; exact ⟨rfl, rfl⟩)
theorem rvalid_holds : Rows.FnExactRecValidSaid :=
  OpenClaim.holds_of_wide 5 Try.f5 rfl rfl rfl rfl rfl rfl rfl ⟨rfl, rfl, rfl, rfl, rfl⟩ rfl rfl rfl rfl rfl rvalid_named Try.func5 rvalid_closed rvalid_inst rvalid_wrap
    (fun os started H enc _ => rvalid_lifted os started H enc)
end Go.Proofs.Ytleiaohoocgnlaa
