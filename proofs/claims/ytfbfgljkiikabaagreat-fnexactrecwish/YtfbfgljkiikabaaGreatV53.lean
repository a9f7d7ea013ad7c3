import Derived.Test.YtfbfgljkiikabaaGreatV39
import Derived.Test.YtfbfgljkiikabaaGreatV52
namespace Go.Proofs.YtfbfgljkiikabaaGreat
open Go.ChangeShapes Go.WideShapes Go.ChangeAt Go.RowKit Go.Deep
open Go.ChangeMaps (open_string shut_string)

set_option maxRecDepth 100000 in
theorem rwish_lifted (os : Os) (started : os.Started) (H : Type) (enc : TypeId × Value → H) :
    ReturnsInHanded {} Tryz.checked os 4 .any (Rows.fnExactRecWishSpec.pre6 enc Tryz.prog Tryz.f4 Rows.fnExactRecWishRow.domain false) (Rows.fnExactRecWishSpec.post enc Tryz.prog Tryz.f4 false true false false) := by
  refine returnsInHanded_of_change (C := Tryz.checked) Tryz.own started (by kernel_rfl) Tryz.func4
    (ChangeSpec.witness6 (enc := enc) (C := Tryz.checked) false ⟨#[], #[.agg #[.int .i64 0, .int .i64 0, .bool false, .int .i64 0, .int .i64 0, .slice none 0 0, .int .i64 0, .int .i64 0, .slice none 0 0, .slice none 0 0, .slice none 0 0, .bool false, .bool false, .int .i64 0, .slice none 0 0, .slice none 0 0, .slice none 0 0, .int .i64 0], .string .empty], []⟩ 8 (by kernel_rfl) (by kernel_rfl) (by kernel_rfl) (by kernel_rfl)) ?_
  intro W base args ds gs before hval0 hW hcnd _
  have hval : ∀ (j : Nat) t v, Tryz.f4.params[j]? = some t → args[j]? = some v → Value.okWide Tryz.prog W .any base t v := hval0
  have hW' := hW
  obtain ⟨p, q, hA0, hV, rfl, hfz, hnd⟩ := hW
  have hA : DataW.TrodAll enc Tryz.prog W 0 (fun _ => true) true Tryz.f4.params.toList args.toList ds p := hA0
  rw [Tryz.params4] at hA hval
  obtain ⟨v0, v1, d0, d1, p0, p1, rfl, rfl, rfl, h0, h1⟩ := trodAll_two hA
  obtain ⟨rfl, rfl⟩ := trodVars_none hV
  have h0k := h0
  obtain ⟨x1, rfl, rfl, rfl, s1⟩ := open_string Tryz.underlying9 (hval 1 9 v1 rfl rfl) h1
  clear hA0 hval0
  simp only [List.append_nil] at hW'
  have hlt0 : ∀ x ∈ p0, x.block < W.heap.size := fun x hx => by simpa using hW'.lt x (by simp [hx])
  obtain ⟨cs, U, rfl, hU⟩ := open_Rr (hval 0 30 v0 rfl rfl) h0
  refine (law_wish cs U (specW U x1) x1 W hU s1 (fun hn ht => ⟨specW_small hn x1, fun cs w h => specWish_any cs U x1 w h hn ht⟩) (fun hn ht cs w h => implWish_any cs U x1 w h hn ht)).mono fun e W' ⟨he, hb⟩ => ?_
  subst he
  have hargs0 := Below.trod Tryz.laidOut (by kernel_rfl) (of_decide_eq_true (by kernel_rfl)) h0k hb hlt0
  exact ⟨_, rfl, ⟨_, _, _, [], _, [], hW', trodAll_mk1 (shut_bool Tryz.underlying4 true), trodAll_mk2 hargs0 (shut_string Tryz.underlying9 s1), rfl, hb.frame _, fun h => by cases h⟩⟩

theorem rwish_named : Tryz.pinned.checked.prog.funcNamed Rows.fnExactRecWishRow.func = some 4 := by kernel_rfl
theorem and_t {a b : Bool} (ha : a = true) (hb : b = true) : (a && b) = true := by rw [ha, hb]; rfl
theorem rwish_c0 : (Rows.fnExactRecWishRow.wf (OpenSpec.ofChange Rows.fnExactRecWishSpec)) = true := by kernel_rfl
theorem rwish_c1 : (laidOutB Tryz.pinned.checked.prog) = true := by kernel_rfl
theorem rwish_c2 : (mapsRowed Tryz.pinned.checked.prog) = true := by kernel_rfl
theorem rwish_c3 : (Tryz.f4.params.all (Tryz.pinned.checked.prog.readableRec ·)) = true := by kernel_rfl
theorem rwish_c4 : (namedTie Tryz.pinned.checked.prog Rows.fnExactRecWishRow.named Rows.fnExactRecWishSpec.vars) = true := by kernel_rfl
theorem rwish_c5 : ((Rows.fnExactRecWishRow.stops == [])) = true := by kernel_rfl
theorem rwish_c6 : ((Tryz.pinned.checked.prog.stops == [])) = true := by kernel_rfl
theorem rwish_c7 : ((Rows.fnExactRecWishRow.knobs == [])) = true := by kernel_rfl
theorem rwish_c8 : ((Tryz.pinned.checked.prog.stopKnobs == [])) = true := by kernel_rfl
theorem rwish_c9 : ((Rows.fnExactRecWishRow.inPlace == Tryz.pinned.checked.prog.inPlace 4)) = true := by kernel_rfl
theorem rwish_c10 : ((Rows.fnExactRecWishRow.unfollowed == Tryz.pinned.checked.prog.unfollowed 4)) = true := by kernel_rfl
theorem rwish_c11 : ((Rows.fnExactRecWishRow.recurses == Tryz.pinned.checked.prog.recurses 4)) = true := by kernel_rfl
theorem rwish_c12 : ((Rows.fnExactRecWishRow.named == Tryz.pinned.checked.prog.varsNamed 4)) = true := by kernel_rfl
theorem rwish_c13 : ((Rows.fnExactRecWishRow.maps == (Tryz.f4.params.toList ++ Rows.fnExactRecWishSpec.plain.varTypes Tryz.pinned.checked.prog).any (Tryz.pinned.checked.prog.mapsRec ·))) = true := by kernel_rfl
theorem rwish_c14 : ((Rows.fnExactRecWishRow.ifaces == (Tryz.f4.params.toList ++ Rows.fnExactRecWishSpec.plain.varTypes Tryz.pinned.checked.prog).any (Tryz.pinned.checked.prog.ifacesRec ·))) = true := by kernel_rfl
theorem rwish_c15 : ((Rows.fnExactRecWishRow.mapsOut == Tryz.pinned.checked.prog.mapsAmong Tryz.f4.resultTypes.toList)) = true := by kernel_rfl
theorem rwish_c16 : ((Rows.fnExactRecWishRow.loops == (Tryz.f4.params.toList ++ Rows.fnExactRecWishSpec.plain.varTypes Tryz.pinned.checked.prog).any (Tryz.pinned.checked.prog.loopsFrom ·))) = true := by kernel_rfl
theorem rwish_c17 : ((Rows.fnExactRecWishRow.wideKeys == (Tryz.f4.params.toList ++ Rows.fnExactRecWishSpec.plain.varTypes Tryz.pinned.checked.prog ++ Tryz.f4.resultTypes.toList).any (Tryz.pinned.checked.prog.wideKeysFrom ·))) = true := by kernel_rfl
theorem rwish_c18 : (Rows.fnExactRecWishSpec.vars.all (Tryz.pinned.checked.prog.varReadable ·)) = true := by kernel_rfl
theorem rwish_c19 : (Tryz.f4.resultTypes.all (fun t => Tryz.pinned.checked.prog.readableRec t && decide (t < Tryz.pinned.checked.prog.types.size))) = true := by kernel_rfl
theorem rwish_c20 : ((Rows.fnExactRecWishRow.ifacesOut == Tryz.f4.resultTypes.toList.any (Tryz.pinned.checked.prog.ifacesRec ·))) = true := by kernel_rfl
theorem rwish_c21 : ((Rows.fnExactRecWishRow.loopsOut == Tryz.f4.resultTypes.toList.any (Tryz.pinned.checked.prog.loopsFrom ·))) = true := by kernel_rfl
theorem rwish_c22 : ((Rows.fnExactRecWishRow.plainKeys == Tryz.pinned.checked.prog.plainKeys)) = true := by kernel_rfl
theorem rwish_c23 : (Rows.fnExactRecWishRow.shortTexts.isNone) = true := by kernel_rfl
theorem rwish_c24 : (Tryz.pinned.checked.prog.stopsHeard) = true := by kernel_rfl
theorem rwish_c25 : (Tryz.pinned.checked.prog.mayEnter) = true := by kernel_rfl
theorem rwish_c26 : ((Rows.fnExactRecWishRow.lifted == Tryz.pinned.checked.prog.liftsFinal)) = true := by kernel_rfl
theorem rwish_c27 : ((Tryz.pinned.checked.prog.make == some Rows.fnExactRecWishRow.make)) = true := by kernel_rfl
theorem rwish_c28 : ((Rows.fnExactRecWishRow.kinds == (if Rows.fnExactRecWishRow.domain.isEmpty then [] else Tryz.f4.params.toList.map fun t => match Tryz.pinned.checked.prog.underlying t with | some (.int k) => some k | _ => none))) = true := by kernel_rfl
theorem rwish_c29 : ((Rows.fnExactRecWishRow.pinned == Rows.fnExactRecWishRow.pinnedBy)) = true := by kernel_rfl
theorem rwish_c30 : ((Rows.fnExactRecWishRow.veiled == (Tryz.f4.params.toList ++ Rows.fnExactRecWishSpec.plain.varTypes Tryz.pinned.checked.prog ++ Tryz.f4.resultTypes.toList).any (Tryz.pinned.checked.prog.veiledRec ·))) = true := by kernel_rfl
theorem rwish_c31 : (Rows.fnExactRecWishRow.veiledFits Tryz.pinned.checked.prog Tryz.f4.params.toList (Tryz.f4.params.toList ++ Rows.fnExactRecWishSpec.plain.varTypes Tryz.pinned.checked.prog ++ Tryz.f4.resultTypes.toList)) = true := by kernel_rfl
set_option maxRecDepth 100000 in
theorem rwish_closed : joinedFacts Tryz.pinned.checked.prog 4 Tryz.f4 Rows.fnExactRecWishSpec Rows.fnExactRecWishRow = true := and_t (and_t (and_t (and_t (and_t (and_t (and_t (and_t (and_t (and_t (and_t (and_t (and_t (and_t (and_t (and_t (and_t (and_t (and_t (and_t (and_t (and_t (and_t (and_t (and_t (and_t (and_t (and_t (and_t (and_t (and_t rwish_c0 rwish_c1) rwish_c2) rwish_c3) rwish_c4) rwish_c5) rwish_c6) rwish_c7) rwish_c8) rwish_c9) rwish_c10) rwish_c11) rwish_c12) rwish_c13) rwish_c14) rwish_c15) rwish_c16) rwish_c17) rwish_c18) rwish_c19) rwish_c20) rwish_c21) rwish_c22) rwish_c23) rwish_c24) rwish_c25) rwish_c26) rwish_c27) rwish_c28) rwish_c29) rwish_c30) rwish_c31
theorem rwish_inst : Tryz.f4.isInstance Tryz.pinned.checked.prog Rows.fnExactRecWishRow.origin Rows.fnExactRecWishRow.targs := of_decide_eq_true (by kernel_rfl)
theorem rwish_wrap : Tryz.f4.isWrapper Tryz.pinned.checked.prog Rows.fnExactRecWishRow.wrapper Rows.fnExactRecWishRow.mainSum := by unfold Func.isWrapper; first | (rw [if_pos (by decide +kernel)]; kernel_rfl) | (rw [if_neg (by decide +kernel)]; exact ⟨rfl, rfl⟩)
theorem rwish_holds : Rows.FnExactRecWishSaid :=
  OpenClaim.holds_of_wide 4 Tryz.f4 rfl rfl rfl rfl rfl rfl rfl ⟨rfl, rfl, rfl, rfl, rfl⟩ rfl rfl rfl rfl rfl rwish_named Tryz.func4 rwish_closed rwish_inst rwish_wrap
    (fun os started H enc _ => rwish_lifted os started H enc)
end Go.Proofs.YtfbfgljkiikabaaGreat
