import Derived.Test.YtjkkbkdpoebfaaaGreatV45
namespace Go.Proofs.YtjkkbkdpoebfaaaGreat
open Go.RowKit Go.Deep

theorem bytes_empty {x y : ByteArray} (hx : x.toList.isEmpty = true) (hy : y.toList.isEmpty = true) : x = y := by
  rw [List.isEmpty_iff] at hx hy
  exact bytes_eq.1 (by rw [hx, hy]; rfl)
/-- what a mend that is ok gives is never empty -/
theorem decM_some_ne {Ss : List Sh} {Ms : List Md} {x : Sh} (hmb : mendsB Ss Ms = true) {V : List ByteArray} {f v : ByteArray} (h : decM x.fields x.kind Ms V f = some v) : v.toList.isEmpty = false := by
  unfold decM at h
  obtain ⟨m, hf, rfl⟩ := Option.map_eq_some_iff.1 h
  have hmem := List.mem_of_find?_eq_some hf
  have hp := List.find?_some hf
  simp only [Bool.and_eq_true] at hp
  have hb := mendsB_mend hmb hmem
  unfold mendB at hb
  cases hs : shOf Ss m.kind with
  | none => rw [hs] at hb; cases hb
  | some y =>
    rw [hs] at hb
    simp only [mendS, Bool.and_eq_true] at hb
    have hform := hb.1.2
    unfold formB at hform
    simp only [Bool.and_eq_true] at hform
    unfold givenV
    cases hfe : m.fr.toList.isEmpty with
    | true =>
      have h2 := hform.2
      rw [hfe] at h2
      rw [if_pos rfl]
      cases hpe : m.put.toList.isEmpty with
      | true => rw [hpe] at h2; simp at h2
      | false => rfl
    | false =>
      rw [if_neg (by simp)]
      have ha := hp.2
      unfold appB at ha
      rw [hfe] at ha
      simp only [Bool.and_eq_true, Bool.false_or] at ha
      simpa using ha.2
/-- what is shaped is filled -/
theorem fill_fix {Ss : List Sh} {Ms : List Md} {x : Sh} (hmb : mendsB Ss Ms = true) (hx : x ∈ Ss) {V F : List ByteArray} (hl : x.fields.length = V.length) (h : FixM x Ms (fillV V x.fields) F) : fillV F x.fields = F := by
  have hfb := shapes_fields (mendsB_shapes hmb) hx
  have hlF : x.fields.length = F.length := by rw [h.len, fillV_len hl]; exact hl
  apply List.ext_getElem?
  intro i
  by_cases hi : i < F.length
  · have hif : i < x.fields.length := by omega
    have hiv : i < V.length := by omega
    rw [fillV_get hi hif, List.getElem?_eq_getElem hi]
    cases he : F[i].toList.isEmpty with
    | false => rfl
    | true =>
      rw [if_pos rfl]
      have hat := h.at' x.fields[i].nm (mem_namesF.2 ⟨i, hif, rfl⟩)
      rw [fields_apart hfb hif, List.getElem?_eq_getElem hi] at hat
      cases hd : decM x.fields x.kind Ms F x.fields[i].nm with
      | some v =>
        rw [hd] at hat
        have := Option.some.inj hat
        rw [this, decM_some_ne hmb hd] at he; cases he
      | none =>
        rw [hd, Option.none_or, fillV_get hiv hif] at hat
        have e := Option.some.inj hat
        cases hve : V[i].toList.isEmpty with
        | true => rw [hve, if_pos rfl] at e; rw [e]
        | false => rw [hve, if_neg (by simp)] at e; rw [e, hve] at he; cases he
  · rw [List.getElem?_eq_none (by rw [fillV_len hlF]; omega), List.getElem?_eq_none (by omega)]
/-- SHAPED ONCE IS SHAPED FOR GOOD -/
theorem ShapeTo.again {Ss : List Sh} {Ms : List Md} {kind : ByteArray} {V F : List ByteArray} (h : ShapeTo Ss Ms kind V F) : ShapeTo Ss Ms kind F F := by
  rcases h with ⟨x, a1, a2, a3, a4⟩ | ⟨a1, a2⟩
  · have hlF : x.fields.length = F.length := by rw [a4.len, fillV_len a3]; exact a3
    refine Or.inl ⟨x, a1, a2, hlF, ?_⟩
    rw [fill_fix a1 (shOf_mem a2).1 a3 a4]
    exact Fix.again a4
  · subst a2; exact Or.inr ⟨a1, rfl⟩
theorem ShapeTo.mended {Ss : List Sh} {Ms : List Md} {kind : ByteArray} {V F : List ByteArray} (h : ShapeTo Ss Ms kind V F) : MendTo Ss Ms kind F F := by
  rcases h with ⟨x, a1, a2, a3, a4⟩ | ⟨a1, a2⟩
  · have hlF : x.fields.length = F.length := by rw [a4.len, fillV_len a3]; exact a3
    exact Or.inl ⟨x, a1, a2, hlF, Fix.again a4⟩
  · subst a2; exact Or.inr ⟨a1, rfl⟩
theorem ShapeTo.filled {Ss : List Sh} {Ms : List Md} {kind : ByteArray} {V F : List ByteArray} (hmb : mendsB Ss Ms = true) (h : ShapeTo Ss Ms kind V F) : goalV Ss kind F = F := by
  have hok : okShapeOf Ss kind = shOf Ss kind := by unfold okShapeOf; rw [mendsB_shapes hmb]; rfl
  rcases h with ⟨x, a1, a2, a3, a4⟩ | ⟨a1, a2⟩
  · have hlF : x.fields.length = F.length := by rw [a4.len, fillV_len a3]; exact a3
    rw [goalV_eq (hok.trans a2) hlF]
    exact fill_fix a1 (shOf_mem a2).1 a3 a4
  · subst a2
    rcases a1 with a1 | a1
    · rw [hmb] at a1; cases a1
    · cases hs : shOf Ss kind with
      | none => exact goalV_none (hok.trans hs)
      | some x => exact goalV_ne (hok.trans hs) (a1 x hs)
end Go.Proofs.YtjkkbkdpoebfaaaGreat
