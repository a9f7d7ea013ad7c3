
import Derived.Test.YtleiaohoocgnlaaLDiskR
import Derived.Test.YtleiaohoocgnlaaOpR
import Derived.Test.YtleiaohoocgnlaaRP1
namespace Go.Proofs.Ytleiaohoocgnlaa
open Go.ChangeShapes Go.WideShapes Go.ChangeAt Go.RowKit Go.Deep
open Go.ChangeMaps (open_string shut_string)

set_option maxRecDepth 100000 in
theorem rdisk_lifted (os : Os) (started : os.Started) (H : Type) (enc : TypeId × Value → H) :
    ReturnsInHanded {} Try.checked os 3 .any (Rows.fnExactRecDiskOkSpec.pre6 enc Try.prog Try.f3 Rows.fnExactRecDiskOkRow.domain false) (Rows.fnExactRecDiskOkSpec.post enc Try.prog Try.f3 false true false false) := by
  refine returnsInHanded_of_change (C := Try.checked) Try.own started (by kernel_rfl) Try.func3
    (ChangeSpec.witness6 (enc := enc) (C := Try.checked) false ⟨#[], #[.agg #[.int .i64 0, .int .i64 0, .slice none 0 0]], []⟩ 8 (by kernel_rfl) (by kernel_rfl) (by kernel_rfl) (by kernel_rfl)) ?_
  intro W base args ds gs before hval0 hW hcnd _
  have hval : ∀ (j : Nat) t v, Try.f3.params[j]? = some t → args[j]? = some v → Value.okWide Try.prog W .any base t v := hval0
  have hW' := hW
  obtain ⟨p, q, hA0, hV, rfl, hfz, hnd⟩ := hW
  have hA : DataW.TrodAll enc Try.prog W 0 (fun _ => true) true Try.f3.params.toList args.toList ds p := hA0
  rw [Try.params3] at hA hval
  obtain ⟨v0, d0, rfl, rfl, h0⟩ := trodAll_one hA
  obtain ⟨rfl, rfl⟩ := trodVars_none hV
  have h0k := h0
  clear hA0 hval0
  simp only [List.append_nil] at hW'
  have hlt0 : ∀ x ∈ p, x.block < W.heap.size := fun x hx => by simpa using hW'.lt x (by simp [hx])
  obtain ⟨cs, U, rfl, hU⟩ := open_Rd (hval 0 24 v0 rfl rfl) h0
  refine (law_disk cs U W hU (fun cs w h => implDisk_any 0 cs U w h)).mono fun e W' ⟨he, hb⟩ => ?_
  subst he
  have hargs0 := Below.trod Try.laidOut (by kernel_rfl) (of_decide_eq_true (by kernel_rfl)) h0k hb hlt0
  exact ⟨_, rfl, ⟨_, _, _, [], _, [], hW', trodAll_mk1 (shut_bool Try.underlying4 true), trodAll_mk1 hargs0, rfl, hb.frame _, fun h => by cases h⟩⟩

theorem rdisk_named : Try.pinned.checked.prog.funcNamed Rows.fnExactRecDiskOkRow.func = some 3 := by kernel_rfl
theorem and_t {a b : Bool} (ha : a = true) (hb : b = true) : (a && b) = true := by rw [ha, hb]; rfl
theorem rdisk_c0 : (Rows.fnExactRecDiskOkRow.wf (OpenSpec.ofChange Rows.fnExactRecDiskOkSpec)) = true := by kernel_rfl
theorem rdisk_c1 : (laidOutB Try.pinned.checked.prog) = true := by kernel_rfl
theorem rdisk_c2 : (mapsRowed Try.pinned.checked.prog) = true := by kernel_rfl
theorem rdisk_c3 : (Try.f3.params.all (Try.pinned.checked.prog.readableRec ·)) = true := by kernel_rfl
theorem rdisk_c4 : (namedTie Try.pinned.checked.prog Rows.fnExactRecDiskOkRow.named Rows.fnExactRecDiskOkSpec.vars) = true := by kernel_rfl
theorem rdisk_c5 : ((Rows.fnExactRecDiskOkRow.stops == [])) = true := by kernel_rfl
theorem rdisk_c6 : ((Try.pinned.checked.prog.stops == [])) = true := by kernel_rfl
theorem rdisk_c7 : ((Rows.fnExactRecDiskOkRow.knobs == [])) = true := by kernel_rfl
theorem rdisk_c8 : ((Try.pinned.checked.prog.stopKnobs == [])) = true := by kernel_rfl
theorem rdisk_c9 : ((Rows.fnExactRecDiskOkRow.inPlace == Try.pinned.checked.prog.inPlace 3)) = true := by kernel_rfl
theorem rdisk_c10 : ((Rows.fnExactRecDiskOkRow.unfollowed == Try.pinned.checked.prog.unfollowed 3)) = true := by kernel_rfl
theorem rdisk_c11 : ((Rows.fnExactRecDiskOkRow.recurses == Try.pinned.checked.prog.recurses 3)) = true := by kernel_rfl
theorem rdisk_c12 : ((Rows.fnExactRecDiskOkRow.named == Try.pinned.checked.prog.varsNamed 3)) = true := by kernel_rfl
theorem rdisk_c13 : ((Rows.fnExactRecDiskOkRow.maps == (Try.f3.params.toList ++ Rows.fnExactRecDiskOkSpec.plain.varTypes Try.pinned.checked.prog).any (Try.pinned.checked.prog.mapsRec ·))) = true := by kernel_rfl
theorem rdisk_c14 : ((Rows.fnExactRecDiskOkRow.ifaces == (Try.f3.params.toList ++ Rows.fnExactRecDiskOkSpec.plain.varTypes Try.pinned.checked.prog).any (Try.pinned.checked.prog.ifacesRec ·))) = true := by kernel_rfl
theorem rdisk_c15 : ((Rows.fnExactRecDiskOkRow.mapsOut == Try.pinned.checked.prog.mapsAmong Try.f3.resultTypes.toList)) = true := by kernel_rfl
theorem rdisk_c16 : ((Rows.fnExactRecDiskOkRow.loops == (Try.f3.params.toList ++ Rows.fnExactRecDiskOkSpec.plain.varTypes Try.pinned.checked.prog).any (Try.pinned.checked.prog.loopsFrom ·))) = true := by kernel_rfl
theorem rdisk_c17 : ((Rows.fnExactRecDiskOkRow.wideKeys == (Try.f3.params.toList ++ Rows.fnExactRecDiskOkSpec.plain.varTypes Try.pinned.checked.prog ++ Try.f3.resultTypes.toList).any (Try.pinned.checked.prog.wideKeysFrom ·))) = true := by kernel_rfl
theorem rdisk_c18 : (Rows.fnExactRecDiskOkSpec.vars.all (Try.pinned.checked.prog.varReadable ·)) = true := by kernel_rfl
theorem rdisk_c19 : (Try.f3.resultTypes.all (fun t => Try.pinned.checked.prog.readableRec t && decide (t < Try.pinned.checked.prog.types.size))) = true := by kernel_rfl
theorem rdisk_c20 : ((Rows.fnExactRecDiskOkRow.ifacesOut == Try.f3.resultTypes.toList.any (Try.pinned.checked.prog.ifacesRec ·))) = true := by kernel_rfl
theorem rdisk_c21 : ((Rows.fnExactRecDiskOkRow.loopsOut == Try.f3.resultTypes.toList.any (Try.pinned.checked.prog.loopsFrom ·))) = true := by kernel_rfl
theorem rdisk_c22 : ((Rows.fnExactRecDiskOkRow.plainKeys == Try.pinned.checked.prog.plainKeys)) = true := by kernel_rfl
theorem rdisk_c23 : (Rows.fnExactRecDiskOkRow.shortTexts.isNone) = true := by kernel_rfl
theorem rdisk_c24 : (Try.pinned.checked.prog.stopsHeard) = true := by kernel_rfl
theorem rdisk_c25 : (Try.pinned.checked.prog.mayEnter) = true := by kernel_rfl
theorem rdisk_c26 : ((Rows.fnExactRecDiskOkRow.lifted == Try.pinned.checked.prog.liftsFinal)) = true := by kernel_rfl
theorem rdisk_c27 : ((Try.pinned.checked.prog.make == some Rows.fnExactRecDiskOkRow.make)) = true := by kernel_rfl
theorem rdisk_c28 : ((Rows.fnExactRecDiskOkRow.kinds == (if Rows.fnExactRecDiskOkRow.domain.isEmpty then [] else Try.f3.params.toList.map fun t => match Try.pinned.checked.prog.underlying t with | some (.int k) => some k | _ => none))) = true := by kernel_rfl
theorem rdisk_c29 : ((Rows.fnExactRecDiskOkRow.pinned == Rows.fnExactRecDiskOkRow.pinnedBy)) = true := by kernel_rfl
theorem rdisk_c30 : ((Rows.fnExactRecDiskOkRow.veiled == (Try.f3.params.toList ++ Rows.fnExactRecDiskOkSpec.plain.varTypes Try.pinned.checked.prog ++ Try.f3.resultTypes.toList).any (Try.pinned.checked.prog.veiledRec ·))) = true := by kernel_rfl
theorem rdisk_c31 : (Rows.fnExactRecDiskOkRow.veiledFits Try.pinned.checked.prog Try.f3.params.toList (Try.f3.params.toList ++ Rows.fnExactRecDiskOkSpec.plain.varTypes Try.pinned.checked.prog ++ Try.f3.resultTypes.toList)) = true := by kernel_rfl
set_option maxRecDepth 100000 in
theorem rdisk_closed : joinedFacts Try.pinned.checked.prog 3 Try.f3 Rows.fnExactRecDiskOkSpec Rows.fnExactRecDiskOkRow = true := and_t (and_t (and_t (and_t (and_t (and_t (and_t (and_t (and_t (and_t (and_t (and_t (and_t (and_t (and_t (and_t (and_t (and_t (and_t (and_t (and_t (and_t (and_t (and_t (and_t (and_t (and_t (and_t (and_t (and_t (and_t rdisk_c0 rdisk_c1) rdisk_c2) rdisk_c3) rdisk_c4) rdisk_c5) rdisk_c6) rdisk_c7) rdisk_c8) rdisk_c9) rdisk_c10) rdisk_c11) rdisk_c12) rdisk_c13) rdisk_c14) rdisk_c15) rdisk_c16) rdisk_c17) rdisk_c18) rdisk_c19) rdisk_c20) rdisk_c21) rdisk_c22) rdisk_c23) rdisk_c24) rdisk_c25) rdisk_c26) rdisk_c27) rdisk_c28) rdisk_c29) rdisk_c30) rdisk_c31
theorem rdisk_inst : Try.f3.isInstance Try.pinned.checked.prog Rows.fnExactRecDiskOkRow.origin Rows.fnExactRecDiskOkRow.targs := of_decide_eq_true (by kernel_rfl)
theorem rdisk_wrap : Try.f3.isWrapper Try.pinned.checked.prog Rows.fnExactRecDiskOkRow.wrapper Rows.fnExactRecDiskOkRow.mainSum := by unfold Func.isWrapper; first | (rw [if_pos (by decide +kernel)]; kernel_rfl) | (rw [if_neg (by decide +kernel)]; exact ⟨rfl, rfl⟩)
theorem rdisk_holds : Rows.FnExactRecDiskOkSaid :=
  OpenClaim.holds_of_wide 3 Try.f3 rfl rfl rfl rfl rfl rfl rfl ⟨rfl, rfl, rfl, rfl, rfl⟩ rfl rfl rfl rfl rfl rdisk_named Try.func3 rdisk_closed rdisk_inst rdisk_wrap
    (fun os started H enc _ => rdisk_lifted os started H enc)
end Go.Proofs.Ytleiaohoocgnlaa
