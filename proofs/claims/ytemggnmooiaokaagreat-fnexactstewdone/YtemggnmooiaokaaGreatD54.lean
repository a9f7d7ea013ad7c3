import Derived.Test.YtemggnmooiaokaaGreatD53
namespace Go.Proofs.YtemggnmooiaokaaGreat
open Go.ChangeShapes Go.WideShapes Go.ChangeAt Go.RowKit Go.Deep
open Go.ChangeMaps (open_string shut_string)

set_option maxRecDepth 100000 in
theorem done_lifted (os : Os) (started : os.Started) (H : Type) (enc : TypeId × Value → H) :
    ReturnsInHanded {} Tryz.checked os 3 .any (Rows.fnExactStewDoneSpec.pre6 enc Tryz.prog Tryz.f3 Rows.fnExactStewDoneRow.domain false) (Rows.fnExactStewDoneSpec.post enc Tryz.prog Tryz.f3 false true false false) := by
  refine returnsInHanded_of_change (C := Tryz.checked) Tryz.own started (by kernel_rfl) Tryz.func3
    (ChangeSpec.witness6 (enc := enc) (C := Tryz.checked) false ⟨#[], #[.agg #[.int .i64 0, .slice none 0 0, .slice none 0 0, .slice none 0 0]], []⟩ 8 (by kernel_rfl) (by kernel_rfl) (by kernel_rfl) (by kernel_rfl)) ?_
  intro W base args ds gs before hval0 hW hcnd _
  have hval : ∀ (j : Nat) t v, Tryz.f3.params[j]? = some t → args[j]? = some v → Value.okWide Tryz.prog W .any base t v := hval0
  have hW' := hW
  obtain ⟨p, q, hA0, hV, rfl, hfz, hnd⟩ := hW
  have hA : DataW.TrodAll enc Tryz.prog W 0 (fun _ => true) true Tryz.f3.params.toList args.toList ds p := hA0
  rw [Tryz.params3] at hA hval
  obtain ⟨v0, d0, rfl, rfl, h0⟩ := trodAll_one hA
  obtain ⟨rfl, rfl⟩ := trodVars_none hV
  have h0k := h0
  clear hA0 hval0
  simp only [List.append_nil] at hW'
  have hlt0 : ∀ x ∈ p, x.block < W.heap.size := fun x hx => by simpa using hW'.lt x (by simp [hx])
  obtain ⟨sv, cv, bv, B, rfl, hB⟩ := open_sbook (hval 0 26 v0 rfl rfl) h0
  refine (law_done _ _ _ B W hB).mono fun e W' ⟨he, hb⟩ => ?_
  subst he
  have hargs0 := Below.trod Tryz.laidOut (by kernel_rfl) (of_decide_eq_true (by kernel_rfl)) h0k hb hlt0
  exact ⟨_, rfl, ⟨_, _, _, [], _, [], hW', trodAll_mk1 (shut_bool Tryz.underlying4 true), trodAll_mk1 hargs0, rfl, hb.frame _, fun h => by cases h⟩⟩

theorem done_named : Tryz.pinned.checked.prog.funcNamed Rows.fnExactStewDoneRow.func = some 3 := by kernel_rfl
theorem and_t {a b : Bool} (ha : a = true) (hb : b = true) : (a && b) = true := by rw [ha, hb]; rfl
theorem done_c0 : (Rows.fnExactStewDoneRow.wf (OpenSpec.ofChange Rows.fnExactStewDoneSpec)) = true := by kernel_rfl
theorem done_c1 : (laidOutB Tryz.pinned.checked.prog) = true := by kernel_rfl
theorem done_c2 : (mapsRowed Tryz.pinned.checked.prog) = true := by kernel_rfl
theorem done_c3 : (Tryz.f3.params.all (Tryz.pinned.checked.prog.readableRec ·)) = true := by kernel_rfl
theorem done_c4 : (namedTie Tryz.pinned.checked.prog Rows.fnExactStewDoneRow.named Rows.fnExactStewDoneSpec.vars) = true := by kernel_rfl
theorem done_c5 : ((Rows.fnExactStewDoneRow.stops == [])) = true := by kernel_rfl
theorem done_c6 : ((Tryz.pinned.checked.prog.stops == [])) = true := by kernel_rfl
theorem done_c7 : ((Rows.fnExactStewDoneRow.knobs == [])) = true := by kernel_rfl
theorem done_c8 : ((Tryz.pinned.checked.prog.stopKnobs == [])) = true := by kernel_rfl
theorem done_c9 : ((Rows.fnExactStewDoneRow.inPlace == Tryz.pinned.checked.prog.inPlace 3)) = true := by kernel_rfl
theorem done_c10 : ((Rows.fnExactStewDoneRow.unfollowed == Tryz.pinned.checked.prog.unfollowed 3)) = true := by kernel_rfl
theorem done_c11 : ((Rows.fnExactStewDoneRow.recurses == Tryz.pinned.checked.prog.recurses 3)) = true := by kernel_rfl
theorem done_c12 : ((Rows.fnExactStewDoneRow.named == Tryz.pinned.checked.prog.varsNamed 3)) = true := by kernel_rfl
theorem done_c13 : ((Rows.fnExactStewDoneRow.maps == (Tryz.f3.params.toList ++ Rows.fnExactStewDoneSpec.plain.varTypes Tryz.pinned.checked.prog).any (Tryz.pinned.checked.prog.mapsRec ·))) = true := by kernel_rfl
theorem done_c14 : ((Rows.fnExactStewDoneRow.ifaces == (Tryz.f3.params.toList ++ Rows.fnExactStewDoneSpec.plain.varTypes Tryz.pinned.checked.prog).any (Tryz.pinned.checked.prog.ifacesRec ·))) = true := by kernel_rfl
theorem done_c15 : ((Rows.fnExactStewDoneRow.mapsOut == Tryz.pinned.checked.prog.mapsAmong Tryz.f3.resultTypes.toList)) = true := by kernel_rfl
theorem done_c16 : ((Rows.fnExactStewDoneRow.loops == (Tryz.f3.params.toList ++ Rows.fnExactStewDoneSpec.plain.varTypes Tryz.pinned.checked.prog).any (Tryz.pinned.checked.prog.loopsFrom ·))) = true := by kernel_rfl
theorem done_c17 : ((Rows.fnExactStewDoneRow.wideKeys == (Tryz.f3.params.toList ++ Rows.fnExactStewDoneSpec.plain.varTypes Tryz.pinned.checked.prog ++ Tryz.f3.resultTypes.toList).any (Tryz.pinned.checked.prog.wideKeysFrom ·))) = true := by kernel_rfl
theorem done_c18 : (Rows.fnExactStewDoneSpec.vars.all (Tryz.pinned.checked.prog.varReadable ·)) = true := by kernel_rfl
theorem done_c19 : (Tryz.f3.resultTypes.all (fun t => Tryz.pinned.checked.prog.readableRec t && decide (t < Tryz.pinned.checked.prog.types.size))) = true := by kernel_rfl
theorem done_c20 : ((Rows.fnExactStewDoneRow.ifacesOut == Tryz.f3.resultTypes.toList.any (Tryz.pinned.checked.prog.ifacesRec ·))) = true := by kernel_rfl
theorem done_c21 : ((Rows.fnExactStewDoneRow.loopsOut == Tryz.f3.resultTypes.toList.any (Tryz.pinned.checked.prog.loopsFrom ·))) = true := by kernel_rfl
theorem done_c22 : ((Rows.fnExactStewDoneRow.plainKeys == Tryz.pinned.checked.prog.plainKeys)) = true := by kernel_rfl
theorem done_c23 : (Rows.fnExactStewDoneRow.shortTexts.isNone) = true := by kernel_rfl
theorem done_c24 : (Tryz.pinned.checked.prog.stopsHeard) = true := by kernel_rfl
theorem done_c25 : (Tryz.pinned.checked.prog.mayEnter) = true := by kernel_rfl
theorem done_c26 : ((Rows.fnExactStewDoneRow.lifted == Tryz.pinned.checked.prog.liftsFinal)) = true := by kernel_rfl
theorem done_c27 : ((Tryz.pinned.checked.prog.make == some Rows.fnExactStewDoneRow.make)) = true := by kernel_rfl
theorem done_c28 : ((Rows.fnExactStewDoneRow.kinds == (if Rows.fnExactStewDoneRow.domain.isEmpty then [] else Tryz.f3.params.toList.map fun t => match Tryz.pinned.checked.prog.underlying t with | some (.int k) => some k | _ => none))) = true := by kernel_rfl
theorem done_c29 : ((Rows.fnExactStewDoneRow.pinned == Rows.fnExactStewDoneRow.pinnedBy)) = true := by kernel_rfl
theorem done_c30 : ((Rows.fnExactStewDoneRow.veiled == (Tryz.f3.params.toList ++ Rows.fnExactStewDoneSpec.plain.varTypes Tryz.pinned.checked.prog ++ Tryz.f3.resultTypes.toList).any (Tryz.pinned.checked.prog.veiledRec ·))) = true := by kernel_rfl
theorem done_c31 : (Rows.fnExactStewDoneRow.veiledFits Tryz.pinned.checked.prog Tryz.f3.params.toList (Tryz.f3.params.toList ++ Rows.fnExactStewDoneSpec.plain.varTypes Tryz.pinned.checked.prog ++ Tryz.f3.resultTypes.toList)) = true := by kernel_rfl
set_option maxRecDepth 100000 in
theorem done_closed : joinedFacts Tryz.pinned.checked.prog 3 Tryz.f3 Rows.fnExactStewDoneSpec Rows.fnExactStewDoneRow = true := and_t (and_t (and_t (and_t (and_t (and_t (and_t (and_t (and_t (and_t (and_t (and_t (and_t (and_t (and_t (and_t (and_t (and_t (and_t (and_t (and_t (and_t (and_t (and_t (and_t (and_t (and_t (and_t (and_t (and_t (and_t done_c0 done_c1) done_c2) done_c3) done_c4) done_c5) done_c6) done_c7) done_c8) done_c9) done_c10) done_c11) done_c12) done_c13) done_c14) done_c15) done_c16) done_c17) done_c18) done_c19) done_c20) done_c21) done_c22) done_c23) done_c24) done_c25) done_c26) done_c27) done_c28) done_c29) done_c30) done_c31
theorem done_inst : Tryz.f3.isInstance Tryz.pinned.checked.prog Rows.fnExactStewDoneRow.origin Rows.fnExactStewDoneRow.targs := of_decide_eq_true (by kernel_rfl)
theorem done_wrap : Tryz.f3.isWrapper Tryz.pinned.checked.prog Rows.fnExactStewDoneRow.wrapper Rows.fnExactStewDoneRow.mainSum := by unfold Func.isWrapper; first | (rw [if_pos (by decide +kernel)]; kernel_rfl) | (rw [if_neg (by decide +kernel)]; exact ⟨rfl, rfl⟩)
theorem done_holds : Rows.FnExactStewDoneSaid :=
  OpenClaim.holds_of_wide 3 Tryz.f3 rfl rfl rfl rfl rfl rfl rfl ⟨rfl, rfl, rfl, rfl, rfl⟩ rfl rfl rfl rfl rfl done_named Tryz.func3 done_closed done_inst done_wrap
    (fun os started H enc _ => done_lifted os started H enc)
end Go.Proofs.YtemggnmooiaokaaGreat
