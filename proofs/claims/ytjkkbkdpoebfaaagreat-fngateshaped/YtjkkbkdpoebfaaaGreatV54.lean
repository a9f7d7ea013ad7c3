import Derived.Test.YtjkkbkdpoebfaaaGreatV52
import Derived.Test.YtjkkbkdpoebfaaaGreatV53
namespace Go.Proofs.YtjkkbkdpoebfaaaGreat
open Go.ChangeShapes Go.WideShapes Go.ChangeAt Go.RowKit Go.Deep
open Go.ChangeMaps (open_string shut_string)

set_option maxRecDepth 100000 in
theorem gshaped_lifted (os : Os) (started : os.Started) (H : Type) (enc : TypeId × Value → H) :
    ReturnsInHanded {} Tryz.checked os 3 .any (Rows.fnGateShapedSpec.pre6 enc Tryz.prog Tryz.f3 Rows.fnGateShapedRow.domain false) (Rows.fnGateShapedSpec.post enc Tryz.prog Tryz.f3 false true false false) := by
  refine returnsInHanded_of_change (C := Tryz.checked) Tryz.own started (by kernel_rfl) Tryz.func3
    (ChangeSpec.witness6 (enc := enc) (C := Tryz.checked) false ⟨#[], #[.slice none 0 0], []⟩ 8 (by kernel_rfl) (by kernel_rfl) (by kernel_rfl) (by kernel_rfl)) ?_
  intro W base args ds gs before hval0 hW hcnd _
  have hval : ∀ (j : Nat) t v, Tryz.f3.params[j]? = some t → args[j]? = some v → Value.okWide Tryz.prog W .any base t v := hval0
  have hW' := hW
  obtain ⟨p, q, hA0, hV, rfl, hfz, hnd⟩ := hW
  have hA : DataW.TrodAll enc Tryz.prog W 0 (fun _ => true) true Tryz.f3.params.toList args.toList ds p := hA0
  rw [Tryz.params3] at hA hval
  obtain ⟨v0, d0, rfl, rfl, h0⟩ := trodAll_one hA
  obtain ⟨rfl, rfl⟩ := trodVars_none hV
  have h0k := h0
  clear hA0 hval0
  simp only [List.append_nil] at hW'
  have hlt0 : ∀ x ∈ p, x.block < W.heap.size := fun x hx => by simpa using hW'.lt x (by simp [hx])
  obtain ⟨a0, len0, cap0, rfl⟩ := okWide_slice Tryz.underlying22 (hval 0 22 v0 rfl rfl)
  obtain ⟨fuel0, hf0⟩ := h0
  obtain ⟨b0, hB0⟩ := open_code (c := .slice a0 len0 cap0) (by simpa [Value.cells] using hf0)
  refine (law_shaped _ b0 W hB0).mono fun e W' ⟨he, hb⟩ => ?_
  subst he
  have hargs0 := Below.trod Tryz.laidOut (by kernel_rfl) (of_decide_eq_true (by kernel_rfl)) h0k hb hlt0
  exact ⟨_, rfl, ⟨_, _, _, [], _, [], hW', trodAll_mk1 (shut_bool Tryz.underlying4 true), trodAll_mk1 hargs0, rfl, hb.frame _, fun h => by cases h⟩⟩

theorem gshaped_named : Tryz.pinned.checked.prog.funcNamed Rows.fnGateShapedRow.func = some 3 := by kernel_rfl
theorem and_t {a b : Bool} (ha : a = true) (hb : b = true) : (a && b) = true := by rw [ha, hb]; rfl
theorem gshaped_c0 : (Rows.fnGateShapedRow.wf (OpenSpec.ofChange Rows.fnGateShapedSpec)) = true := by kernel_rfl
theorem gshaped_c1 : (laidOutB Tryz.pinned.checked.prog) = true := by kernel_rfl
theorem gshaped_c2 : (mapsRowed Tryz.pinned.checked.prog) = true := by kernel_rfl
theorem gshaped_c3 : (Tryz.f3.params.all (Tryz.pinned.checked.prog.readableRec ·)) = true := by kernel_rfl
theorem gshaped_c4 : (namedTie Tryz.pinned.checked.prog Rows.fnGateShapedRow.named Rows.fnGateShapedSpec.vars) = true := by kernel_rfl
theorem gshaped_c5 : ((Rows.fnGateShapedRow.stops == [])) = true := by kernel_rfl
theorem gshaped_c6 : ((Tryz.pinned.checked.prog.stops == [])) = true := by kernel_rfl
theorem gshaped_c7 : ((Rows.fnGateShapedRow.knobs == [])) = true := by kernel_rfl
theorem gshaped_c8 : ((Tryz.pinned.checked.prog.stopKnobs == [])) = true := by kernel_rfl
theorem gshaped_c9 : ((Rows.fnGateShapedRow.inPlace == Tryz.pinned.checked.prog.inPlace 3)) = true := by kernel_rfl
theorem gshaped_c10 : ((Rows.fnGateShapedRow.unfollowed == Tryz.pinned.checked.prog.unfollowed 3)) = true := by kernel_rfl
theorem gshaped_c11 : ((Rows.fnGateShapedRow.recurses == Tryz.pinned.checked.prog.recurses 3)) = true := by kernel_rfl
theorem gshaped_c12 : ((Rows.fnGateShapedRow.named == Tryz.pinned.checked.prog.varsNamed 3)) = true := by kernel_rfl
theorem gshaped_c13 : ((Rows.fnGateShapedRow.maps == (Tryz.f3.params.toList ++ Rows.fnGateShapedSpec.plain.varTypes Tryz.pinned.checked.prog).any (Tryz.pinned.checked.prog.mapsRec ·))) = true := by kernel_rfl
theorem gshaped_c14 : ((Rows.fnGateShapedRow.ifaces == (Tryz.f3.params.toList ++ Rows.fnGateShapedSpec.plain.varTypes Tryz.pinned.checked.prog).any (Tryz.pinned.checked.prog.ifacesRec ·))) = true := by kernel_rfl
theorem gshaped_c15 : ((Rows.fnGateShapedRow.mapsOut == Tryz.pinned.checked.prog.mapsAmong Tryz.f3.resultTypes.toList)) = true := by kernel_rfl
theorem gshaped_c16 : ((Rows.fnGateShapedRow.loops == (Tryz.f3.params.toList ++ Rows.fnGateShapedSpec.plain.varTypes Tryz.pinned.checked.prog).any (Tryz.pinned.checked.prog.loopsFrom ·))) = true := by kernel_rfl
theorem gshaped_c17 : ((Rows.fnGateShapedRow.wideKeys == (Tryz.f3.params.toList ++ Rows.fnGateShapedSpec.plain.varTypes Tryz.pinned.checked.prog ++ Tryz.f3.resultTypes.toList).any (Tryz.pinned.checked.prog.wideKeysFrom ·))) = true := by kernel_rfl
theorem gshaped_c18 : (Rows.fnGateShapedSpec.vars.all (Tryz.pinned.checked.prog.varReadable ·)) = true := by kernel_rfl
theorem gshaped_c19 : (Tryz.f3.resultTypes.all (fun t => Tryz.pinned.checked.prog.readableRec t && decide (t < Tryz.pinned.checked.prog.types.size))) = true := by kernel_rfl
theorem gshaped_c20 : ((Rows.fnGateShapedRow.ifacesOut == Tryz.f3.resultTypes.toList.any (Tryz.pinned.checked.prog.ifacesRec ·))) = true := by kernel_rfl
theorem gshaped_c21 : ((Rows.fnGateShapedRow.loopsOut == Tryz.f3.resultTypes.toList.any (Tryz.pinned.checked.prog.loopsFrom ·))) = true := by kernel_rfl
theorem gshaped_c22 : ((Rows.fnGateShapedRow.plainKeys == Tryz.pinned.checked.prog.plainKeys)) = true := by kernel_rfl
theorem gshaped_c23 : (Rows.fnGateShapedRow.shortTexts.isNone) = true := by kernel_rfl
theorem gshaped_c24 : (Tryz.pinned.checked.prog.stopsHeard) = true := by kernel_rfl
theorem gshaped_c25 : (Tryz.pinned.checked.prog.mayEnter) = true := by kernel_rfl
theorem gshaped_c26 : ((Rows.fnGateShapedRow.lifted == Tryz.pinned.checked.prog.liftsFinal)) = true := by kernel_rfl
theorem gshaped_c27 : ((Tryz.pinned.checked.prog.make == some Rows.fnGateShapedRow.make)) = true := by kernel_rfl
theorem gshaped_c28 : ((Rows.fnGateShapedRow.kinds == (if Rows.fnGateShapedRow.domain.isEmpty then [] else Tryz.f3.params.toList.map fun t => match Tryz.pinned.checked.prog.underlying t with | some (.int k) => some k | _ => none))) = true := by kernel_rfl
theorem gshaped_c29 : ((Rows.fnGateShapedRow.pinned == Rows.fnGateShapedRow.pinnedBy)) = true := by kernel_rfl
theorem gshaped_c30 : ((Rows.fnGateShapedRow.veiled == (Tryz.f3.params.toList ++ Rows.fnGateShapedSpec.plain.varTypes Tryz.pinned.checked.prog ++ Tryz.f3.resultTypes.toList).any (Tryz.pinned.checked.prog.veiledRec ·))) = true := by kernel_rfl
theorem gshaped_c31 : (Rows.fnGateShapedRow.veiledFits Tryz.pinned.checked.prog Tryz.f3.params.toList (Tryz.f3.params.toList ++ Rows.fnGateShapedSpec.plain.varTypes Tryz.pinned.checked.prog ++ Tryz.f3.resultTypes.toList)) = true := by kernel_rfl
set_option maxRecDepth 100000 in
theorem gshaped_closed : joinedFacts Tryz.pinned.checked.prog 3 Tryz.f3 Rows.fnGateShapedSpec Rows.fnGateShapedRow = true := and_t (and_t (and_t (and_t (and_t (and_t (and_t (and_t (and_t (and_t (and_t (and_t (and_t (and_t (and_t (and_t (and_t (and_t (and_t (and_t (and_t (and_t (and_t (and_t (and_t (and_t (and_t (and_t (and_t (and_t (and_t gshaped_c0 gshaped_c1) gshaped_c2) gshaped_c3) gshaped_c4) gshaped_c5) gshaped_c6) gshaped_c7) gshaped_c8) gshaped_c9) gshaped_c10) gshaped_c11) gshaped_c12) gshaped_c13) gshaped_c14) gshaped_c15) gshaped_c16) gshaped_c17) gshaped_c18) gshaped_c19) gshaped_c20) gshaped_c21) gshaped_c22) gshaped_c23) gshaped_c24) gshaped_c25) gshaped_c26) gshaped_c27) gshaped_c28) gshaped_c29) gshaped_c30) gshaped_c31
theorem gshaped_inst : Tryz.f3.isInstance Tryz.pinned.checked.prog Rows.fnGateShapedRow.origin Rows.fnGateShapedRow.targs := of_decide_eq_true (by kernel_rfl)
theorem gshaped_wrap : Tryz.f3.isWrapper Tryz.pinned.checked.prog Rows.fnGateShapedRow.wrapper Rows.fnGateShapedRow.mainSum := by unfold Func.isWrapper; first | (rw [if_pos (by decide +kernel)]; kernel_rfl) | (rw [if_neg (by decide +kernel)]; exact ⟨rfl, rfl⟩)
theorem gshaped_holds : Rows.FnGateShapedSaid :=
  OpenClaim.holds_of_wide 3 Tryz.f3 rfl rfl rfl rfl rfl rfl rfl ⟨rfl, rfl, rfl, rfl, rfl⟩ rfl rfl rfl rfl rfl gshaped_named Tryz.func3 gshaped_closed gshaped_inst gshaped_wrap
    (fun os started H enc _ => gshaped_lifted os started H enc)
end Go.Proofs.YtjkkbkdpoebfaaaGreat
