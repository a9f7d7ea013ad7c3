
import Derived.Test.YthecacabcgaenaaLSWorld
import Derived.Test.YthecacabcgaenaaOpWS
namespace Go.Proofs.Ythecacabcgaenaa
open Go.ChangeShapes Go.WideShapes Go.ChangeAt Go.RowKit Go.Deep
open Go.ChangeMaps (open_string shut_string)

set_option maxRecDepth 100000 in
theorem sworld_lifted (os : Os) (started : os.Started) (H : Type) (enc : TypeId × Value → H) :
    ReturnsInHanded {} Try.checked os 3 .any (Rows.fnExactStewWorldOkSpec.pre6 enc Try.prog Try.f3 Rows.fnExactStewWorldOkRow.domain false) (Rows.fnExactStewWorldOkSpec.post enc Try.prog Try.f3 false true false false) := by
  refine returnsInHanded_of_change (C := Try.checked) Try.own started (by kernel_rfl) Try.func3
    (ChangeSpec.witness6 (enc := enc) (C := Try.checked) false ⟨#[], #[.agg #[.slice none 0 0, .int .i64 0, .slice none 0 0, .slice none 0 0, .slice none 0 0]], []⟩ 8 (by kernel_rfl) (by kernel_rfl) (by kernel_rfl) (by kernel_rfl)) ?_
  intro W base args ds gs before hval0 hW hcnd _
  have hval : ∀ (j : Nat) t v, Try.f3.params[j]? = some t → args[j]? = some v → Value.okWide Try.prog W .any base t v := hval0
  have hW' := hW
  obtain ⟨p, q, hA0, hV, rfl, hfz, hnd⟩ := hW
  have hA : DataW.TrodAll enc Try.prog W 0 (fun _ => true) true Try.f3.params.toList args.toList ds p := hA0
  rw [Try.params3] at hA hval
  obtain ⟨v0, d0, rfl, rfl, h0⟩ := trodAll_one hA
  obtain ⟨rfl, rfl⟩ := trodVars_none hV
  have h0k := h0
  clear hA0 hval0
  simp only [List.append_nil] at hW'
  have hlt0 : ∀ x ∈ p, x.block < W.heap.size := fun x hx => by simpa using hW'.lt x (by simp [hx])
  obtain ⟨cs, U, rfl, hB⟩ := open_sworld (hval 0 29 v0 rfl rfl) h0
  refine (law_sworld cs U W hB).mono fun e W' ⟨he, hb⟩ => ?_
  subst he
  have hargs0 := Below.trod Try.laidOut (by kernel_rfl) (of_decide_eq_true (by kernel_rfl)) h0k hb hlt0
  exact ⟨_, rfl, ⟨_, _, _, [], _, [], hW', trodAll_mk1 (shut_bool Try.underlying4 true), trodAll_mk1 hargs0, rfl, hb.frame _, fun h => by cases h⟩⟩

theorem sworld_named : Try.pinned.checked.prog.funcNamed Rows.fnExactStewWorldOkRow.func = some 3 := by kernel_rfl
theorem and_t {a b : Bool} (ha : a = true) (hb : b = true) : (a && b) = true := by rw [ha, hb]; rfl
theorem sworld_c0 : (Rows.fnExactStewWorldOkRow.wf (OpenSpec.ofChange Rows.fnExactStewWorldOkSpec)) = true := by kernel_rfl
theorem sworld_c1 : (laidOutB Try.pinned.checked.prog) = true := by kernel_rfl
theorem sworld_c2 : (mapsRowed Try.pinned.checked.prog) = true := by kernel_rfl
theorem sworld_c3 : (Try.f3.params.all (Try.pinned.checked.prog.readableRec ·)) = true := by kernel_rfl
theorem sworld_c4 : (namedTie Try.pinned.checked.prog Rows.fnExactStewWorldOkRow.named Rows.fnExactStewWorldOkSpec.vars) = true := by kernel_rfl
theorem sworld_c5 : ((Rows.fnExactStewWorldOkRow.stops == [])) = true := by kernel_rfl
theorem sworld_c6 : ((Try.pinned.checked.prog.stops == [])) = true := by kernel_rfl
theorem sworld_c7 : ((Rows.fnExactStewWorldOkRow.knobs == [])) = true := by kernel_rfl
theorem sworld_c8 : ((Try.pinned.checked.prog.stopKnobs == [])) = true := by kernel_rfl
theorem sworld_c9 : ((Rows.fnExactStewWorldOkRow.inPlace == Try.pinned.checked.prog.inPlace 3)) = true := by kernel_rfl
theorem sworld_c10 : ((Rows.fnExactStewWorldOkRow.unfollowed == Try.pinned.checked.prog.unfollowed 3)) = true := by kernel_rfl
theorem sworld_c11 : ((Rows.fnExactStewWorldOkRow.recurses == Try.pinned.checked.prog.recurses 3)) = true := by kernel_rfl
theorem sworld_c12 : ((Rows.fnExactStewWorldOkRow.named == Try.pinned.checked.prog.varsNamed 3)) = true := by kernel_rfl
theorem sworld_c13 : ((Rows.fnExactStewWorldOkRow.maps == (Try.f3.params.toList ++ Rows.fnExactStewWorldOkSpec.plain.varTypes Try.pinned.checked.prog).any (Try.pinned.checked.prog.mapsRec ·))) = true := by kernel_rfl
theorem sworld_c14 : ((Rows.fnExactStewWorldOkRow.ifaces == (Try.f3.params.toList ++ Rows.fnExactStewWorldOkSpec.plain.varTypes Try.pinned.checked.prog).any (Try.pinned.checked.prog.ifacesRec ·))) = true := by kernel_rfl
theorem sworld_c15 : ((Rows.fnExactStewWorldOkRow.mapsOut == Try.pinned.checked.prog.mapsAmong Try.f3.resultTypes.toList)) = true := by kernel_rfl
theorem sworld_c16 : ((Rows.fnExactStewWorldOkRow.loops == (Try.f3.params.toList ++ Rows.fnExactStewWorldOkSpec.plain.varTypes Try.pinned.checked.prog).any (Try.pinned.checked.prog.loopsFrom ·))) = true := by kernel_rfl
theorem sworld_c17 : ((Rows.fnExactStewWorldOkRow.wideKeys == (Try.f3.params.toList ++ Rows.fnExactStewWorldOkSpec.plain.varTypes Try.pinned.checked.prog ++ Try.f3.resultTypes.toList).any (Try.pinned.checked.prog.wideKeysFrom ·))) = true := by kernel_rfl
theorem sworld_c18 : (Rows.fnExactStewWorldOkSpec.vars.all (Try.pinned.checked.prog.varReadable ·)) = true := by kernel_rfl
theorem sworld_c19 : (Try.f3.resultTypes.all (fun t => Try.pinned.checked.prog.readableRec t && decide (t < Try.pinned.checked.prog.types.size))) = true := by kernel_rfl
theorem sworld_c20 : ((Rows.fnExactStewWorldOkRow.ifacesOut == Try.f3.resultTypes.toList.any (Try.pinned.checked.prog.ifacesRec ·))) = true := by kernel_rfl
theorem sworld_c21 : ((Rows.fnExactStewWorldOkRow.loopsOut == Try.f3.resultTypes.toList.any (Try.pinned.checked.prog.loopsFrom ·))) = true := by kernel_rfl
theorem sworld_c22 : ((Rows.fnExactStewWorldOkRow.plainKeys == Try.pinned.checked.prog.plainKeys)) = true := by kernel_rfl
theorem sworld_c23 : (Rows.fnExactStewWorldOkRow.shortTexts.isNone) = true := by kernel_rfl
theorem sworld_c24 : (Try.pinned.checked.prog.stopsHeard) = true := by kernel_rfl
theorem sworld_c25 : (Try.pinned.checked.prog.mayEnter) = true := by kernel_rfl
theorem sworld_c26 : ((Rows.fnExactStewWorldOkRow.lifted == Try.pinned.checked.prog.liftsFinal)) = true := by kernel_rfl
theorem sworld_c27 : ((Try.pinned.checked.prog.make == some Rows.fnExactStewWorldOkRow.make)) = true := by kernel_rfl
theorem sworld_c28 : ((Rows.fnExactStewWorldOkRow.kinds == (if Rows.fnExactStewWorldOkRow.domain.isEmpty then [] else Try.f3.params.toList.map fun t => match Try.pinned.checked.prog.underlying t with | some (.int k) => some k | _ => none))) = true := by kernel_rfl
theorem sworld_c29 : ((Rows.fnExactStewWorldOkRow.pinned == Rows.fnExactStewWorldOkRow.pinnedBy)) = true := by kernel_rfl
theorem sworld_c30 : ((Rows.fnExactStewWorldOkRow.veiled == (Try.f3.params.toList ++ Rows.fnExactStewWorldOkSpec.plain.varTypes Try.pinned.checked.prog ++ Try.f3.resultTypes.toList).any (Try.pinned.checked.prog.veiledRec ·))) = true := by kernel_rfl
theorem sworld_c31 : (Rows.fnExactStewWorldOkRow.veiledFits Try.pinned.checked.prog Try.f3.params.toList (Try.f3.params.toList ++ Rows.fnExactStewWorldOkSpec.plain.varTypes Try.pinned.checked.prog ++ Try.f3.resultTypes.toList)) = true := by kernel_rfl
set_option maxRecDepth 100000 in
theorem sworld_closed : joinedFacts Try.pinned.checked.prog 3 Try.f3 Rows.fnExactStewWorldOkSpec Rows.fnExactStewWorldOkRow = true := and_t (and_t (and_t (and_t (and_t (and_t (and_t (and_t (and_t (and_t (and_t (and_t (and_t (and_t (and_t (and_t (and_t (and_t (and_t (and_t (and_t (and_t (and_t (and_t (and_t (and_t (and_t (and_t (and_t (and_t (and_t sworld_c0 sworld_c1) sworld_c2) sworld_c3) sworld_c4) sworld_c5) sworld_c6) sworld_c7) sworld_c8) sworld_c9) sworld_c10) sworld_c11) sworld_c12) sworld_c13) sworld_c14) sworld_c15) sworld_c16) sworld_c17) sworld_c18) sworld_c19) sworld_c20) sworld_c21) sworld_c22) sworld_c23) sworld_c24) sworld_c25) sworld_c26) sworld_c27) sworld_c28) sworld_c29) sworld_c30) sworld_c31
theorem sworld_inst : Try.f3.isInstance Try.pinned.checked.prog Rows.fnExactStewWorldOkRow.origin Rows.fnExactStewWorldOkRow.targs := of_decide_eq_true (by kernel_rfl)
theorem sworld_wrap : Try.f3.isWrapper Try.pinned.checked.prog Rows.fnExactStewWorldOkRow.wrapper Rows.fnExactStewWorldOkRow.mainSum := by unfold Func.isWrapper; first | (rw [if_pos (by decide +kernel)]; kernel_rfl) | (rw [if_neg (by decide +kernel)]; exact ⟨rfl, rfl⟩)
theorem sworld_holds : Rows.FnExactStewWorldOkSaid :=
  OpenClaim.holds_of_wide 3 Try.f3 rfl rfl rfl rfl rfl rfl rfl ⟨rfl, rfl, rfl, rfl, rfl⟩ rfl rfl rfl rfl rfl sworld_named Try.func3 sworld_closed sworld_inst sworld_wrap
    (fun os started H enc _ => sworld_lifted os started H enc)
end Go.Proofs.Ythecacabcgaenaa
