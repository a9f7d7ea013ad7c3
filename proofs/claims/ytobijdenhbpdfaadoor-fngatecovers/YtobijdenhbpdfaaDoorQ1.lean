
import Derived.Test.YtobijdenhbpdfaaDoorU4
namespace Go.Proofs.YtobijdenhbpdfaaDoor
open Go.RowKit Go.Deep

/-! covering is sound, and leads on -/
theorem under_mono {Ts : List Tm} {c : ByteArray} : ∀ (n : Nat) (a : ByteArray) (m : Nat), n ≤ m → underN Ts c n a = true → underN Ts c m a = true
  | 0, _, _, _, h => by simp [underN] at h
  | n + 1, a, m, hm, h => by
    obtain ⟨k, rfl⟩ : ∃ k, m = k + 1 := ⟨m - 1, by omega⟩
    rw [underN] at h ⊢
    by_cases he : (ovB Ts a).toList.isEmpty = true
    · rw [if_pos he] at h; cases h
    · rw [if_neg he] at h ⊢
      by_cases hq : ((ovB Ts a).toList == c.toList) = true
      · rw [if_pos hq]
      · rw [if_neg hq] at h ⊢
        exact under_mono n _ k (by omega) h
theorem under_comp {Ts : List Tm} {b c : ByteArray} : ∀ (n : Nat) (a : ByteArray) (m : Nat), underN Ts b n a = true → underN Ts c m b = true → underN Ts c (n + m) a = true
  | 0, _, _, h, _ => by simp [underN] at h
  | n + 1, a, m, h, h' => by
    rw [show n + 1 + m = n + m + 1 by omega]
    rw [underN] at h ⊢
    by_cases he : (ovB Ts a).toList.isEmpty = true
    · rw [if_pos he] at h; cases h
    · rw [if_neg he] at h ⊢
      by_cases hc : ((ovB Ts a).toList == c.toList) = true
      · rw [if_pos hc]
      · rw [if_neg hc]
        by_cases hq : ((ovB Ts a).toList == b.toList) = true
        · rw [bytes_eq.1 hq]
          exact under_mono m _ _ (by omega) h'
        · rw [if_neg hq] at h
          exact under_comp n _ m h h'
theorem under_deep {Ts : List Tm} {c : ByteArray} : ∀ (n : Nat) (a : ByteArray) (m : Nat), underN Ts c n a = true → deepN Ts (m + 1) a = false → underN Ts c m a = true
  | 0, _, _, h, _ => by simp [underN] at h
  | n + 1, a, m, h, hd => by
    rw [underN] at h
    rw [deepN] at hd
    by_cases he : (ovB Ts a).toList.isEmpty = true
    · rw [if_pos he] at h; cases h
    · rw [if_neg he] at h hd
      cases m with
      | zero => simp [deepN] at hd
      | succ m =>
        rw [underN, if_neg he]
        by_cases hc : ((ovB Ts a).toList == c.toList) = true
        · rw [if_pos hc]
        · rw [if_neg hc] at h ⊢
          exact under_deep n _ m h hd
theorem nil_empty : (⟨#[]⟩ : ByteArray).toList.isEmpty = true := by rw [ByteArray.toList_eq]; rfl
theorem deep_no {Ts : List Tm} (h : teamsB Ts = true) (a : ByteArray) : deepN Ts 5 a = false := by
  by_cases hp : plT Ts a < Ts.length
  · unfold teamsB at h
    rw [Bool.and_eq_true] at h
    have h1 := range_is hp h.2
    rw [teamAt_eq hp] at h1
    simp only [Bool.and_eq_true] at h1
    have h2 := h1.2
    rw [bytes_eq.1 (plT_hit hp)] at h2
    simpa using h2
  · rw [deepN, ovB_ge hp, if_pos nil_empty]
theorem under_trans {Ts : List Tm} (ht : teamsB Ts = true) {a b c : ByteArray} (h : underB Ts a b = true) (h' : underB Ts b c = true) : underB Ts a c = true := by
  unfold underB at *
  rw [Bool.or_eq_true] at h h' ⊢
  rcases h with h | h
  · rw [bytes_eq.1 h]; exact h'
  · rcases h' with h' | h'
    · rw [← bytes_eq.1 h']; exact Or.inr h
    · exact Or.inr (under_deep _ _ 4 (under_comp _ _ _ h h') (deep_no ht a))
theorem under_refl (Ts : List Tm) (a : ByteArray) : underB Ts a a = true := by
  unfold underB
  rw [bytes_refl, Bool.true_or]
theorem begins_iff {s p : ByteArray} : beginsB s p = true ↔ p.toList <+: s.toList := by
  have e : ∀ (x : ByteArray) (n : Nat), (x.extract 0 n).toList = x.toList.take n := fun x n => by
    rw [ByteArray.toList_eq, ByteArray.toList_eq]
    simp
  have sz : ∀ x : ByteArray, x.toList.length = x.size := fun x => by rw [ByteArray.toList_eq]; simp
  unfold beginsB
  rw [Bool.and_eq_true, decide_eq_true_iff]
  constructor
  · rintro ⟨_, h2⟩
    rw [beq_iff_eq, e] at h2
    rw [← h2]
    exact List.take_prefix _ _
  · intro h
    refine ⟨?_, ?_⟩
    · have := h.length_le
      rw [sz, sz] at this
      omega
    · rw [beq_iff_eq, e, ← sz p]
      exact (List.prefix_iff_eq_take.1 h).symm
theorem begins_refl (s : ByteArray) : beginsB s s = true := begins_iff.2 (List.prefix_refl _)
theorem begins_trans {s p q : ByteArray} (h : beginsB s p = true) (h' : beginsB p q = true) : beginsB s q = true := begins_iff.2 ((begins_iff.1 h').trans (begins_iff.1 h))
/-- what a rule gives of another's fields, and that of an act, it gives of the act -/
theorem gives_trans {Ts : List Tm} (ht : teamsB Ts = true) {o r : Ru} {k t n : ByteArray} {v : Int} (h : givesP Ts o r.kd r.tm r.pf v = true) (h' : givesP Ts r k t n v = true) : givesP Ts o k t n v = true := by
  unfold givesP matchB at *
  simp only [Bool.and_eq_true, Bool.or_eq_true] at h h' ⊢
  obtain ⟨⟨⟨h1, h2⟩, h3⟩, h4⟩ := h
  obtain ⟨⟨⟨g1, g2⟩, g3⟩, g4⟩ := h'
  refine ⟨⟨⟨?_, ?_⟩, begins_trans g3 h3⟩, h4⟩
  · rcases h1 with h1 | h1
    · exact Or.inl h1
    · rw [bytes_eq] at h1
      rw [h1]
      exact g1
  · rcases h2 with h2 | h2
    · exact Or.inl h2
    · cases ho : o.tm.toList.isEmpty with
      | true => exact Or.inl rfl
      | false =>
        rcases g2 with g2 | g2
        · rw [under_empty ht g2 ho] at h2; cases h2
        · exact Or.inr (under_trans ht g2 h2)
theorem gives_self (Ts : List Tm) (r : Ru) {v : Int} (h : hasV r.vb v = true) : givesP Ts r r.kd r.tm r.pf v = true := by
  unfold givesP matchB
  rw [bytes_refl, under_refl, begins_refl, h]
  simp
theorem allok_iff {Ts : List Tm} {Rs : List Ru} {r : Ru} : allokB Ts Rs r = true ↔ teamsB Ts = true ∧ ruleB r = true ∧ ∀ q ∈ Rs, ruleB q = true := by
  unfold allokB
  rw [Bool.and_eq_true, Bool.and_eq_true, List.all_eq_true]
  exact ⟨fun h => ⟨h.1.1, h.1.2, h.2⟩, fun h => ⟨⟨h.1, h.2.1⟩, h.2.2⟩⟩
theorem miss_zero {Ts : List Tm} {Rs : List Ru} {r : Ru} (hr : ruleB r = true) : (num (missP Ts Rs r) == 0) = true ↔ ∀ v, hasV r.vb v = true → ∃ q ∈ Rs, givesP Ts q r.kd r.tm r.pf v = true := by
  rw [num_zero]
  constructor
  · intro h v hv
    obtain ⟨h1, h5⟩ := vbs_in (rule_vbs hr) hv
    have := h v h1 h5
    unfold missP at this
    rw [hv, Bool.true_and, Bool.not_eq_false'] at this
    exact List.any_eq_true.1 this
  · intro h v _ _
    unfold missP
    cases hv : hasV r.vb v with
    | false => rfl
    | true =>
      rw [Bool.true_and, Bool.not_eq_false']
      exact List.any_eq_true.2 (h v hv)
theorem covers_iff {Ts : List Tm} {Rs : List Ru} {r : Ru} : coversB Ts Rs r = true ↔ allokB Ts Rs r = true ∧ ∀ v, hasV r.vb v = true → ∃ q ∈ Rs, givesP Ts q r.kd r.tm r.pf v = true := by
  unfold coversB
  rw [Bool.and_eq_true]
  constructor
  · intro h
    exact ⟨h.1, (miss_zero (allok_iff.1 h.1).2.1).1 h.2⟩
  · intro h
    exact ⟨h.1, (miss_zero (allok_iff.1 h.1).2.1).2 h.2⟩
/-- SOUND: what a covered rule allows, one of the rules allows -/
theorem cover_sound {Ts : List Tm} {Rs : List Ru} {r : Ru} (h : coversB Ts Rs r = true) {v : Int} {k t n : ByteArray} (ha : allowsB Ts r v k t n = true) : ∃ q ∈ Rs, allowsB Ts q v k t n = true := by
  obtain ⟨hok, hc⟩ := covers_iff.1 h
  obtain ⟨ht, _, hR⟩ := allok_iff.1 hok
  unfold allowsB at ha
  simp only [Bool.and_eq_true] at ha
  have hv : hasV r.vb v = true := by have := ha.2; unfold givesP at this; rw [Bool.and_eq_true] at this; exact this.2
  obtain ⟨q, hq, hg⟩ := hc v hv
  refine ⟨q, hq, ?_⟩
  unfold allowsB
  rw [ht, hR q hq, gives_trans ht hg ha.2]
  rfl
theorem vbs_some {L : List Int} (h : vbsB L = true) : ∃ v, hasV L v = true := by
  unfold vbsB at h
  rw [Bool.and_eq_true, decide_eq_true_iff] at h
  exact ⟨L[0]'h.1, hasV_mem.2 (List.getElem_mem _)⟩
/-- IT LEADS ON -/
theorem cover_on {Ts : List Tm} {Rs Os : List Ru} {r : Ru} (h : coversB Ts Rs r = true) (ho : ∀ q ∈ Rs, coversB Ts Os q = true) : coversB Ts Os r = true := by
  obtain ⟨hok, hc⟩ := covers_iff.1 h
  obtain ⟨ht, hr, hR⟩ := allok_iff.1 hok
  obtain ⟨v0, hv0⟩ := vbs_some (rule_vbs hr)
  obtain ⟨q0, hq0, _⟩ := hc v0 hv0
  have hO := (allok_iff.1 (covers_iff.1 (ho q0 hq0)).1).2.2
  refine covers_iff.2 ⟨allok_iff.2 ⟨ht, hr, hO⟩, fun v hv => ?_⟩
  obtain ⟨q, hq, hg⟩ := hc v hv
  have hvq : hasV q.vb v = true := by have := hg; unfold givesP at this; rw [Bool.and_eq_true] at this; exact this.2
  obtain ⟨o, hom, hgo⟩ := (covers_iff.1 (ho q hq)).2 v hvq
  exact ⟨o, hom, gives_trans ht hgo hg⟩
/-- with the rule itself among the rules, all is covered -/
theorem cover_self (Ts : List Tm) (Rs : List Ru) (r : Ru) : coversB Ts (Rs ++ [r]) r = allokB Ts Rs r := by
  rw [Bool.eq_iff_iff]
  constructor
  · intro h
    obtain ⟨h1, h2, h3⟩ := allok_iff.1 (covers_iff.1 h).1
    exact allok_iff.2 ⟨h1, h2, fun q hq => h3 q (List.mem_append_left _ hq)⟩
  · intro h
    obtain ⟨h1, h2, h3⟩ := allok_iff.1 h
    refine covers_iff.2 ⟨allok_iff.2 ⟨h1, h2, fun q hq => ?_⟩, fun v hv => ⟨r, by simp, gives_self Ts r hv⟩⟩
    rcases List.mem_append.1 hq with hq | hq
    · exact h3 q hq
    · rw [List.mem_singleton.1 hq]; exact h2
theorem under_new {Ts : List Tm} {t b : ByteArray} (ht : ∀ x ∈ Ts, x.nm ≠ t) (hb : t ≠ b) : underB Ts t b = false := by
  have hp : ¬ plT Ts t < Ts.length := fun h => ht _ (List.getElem_mem h) (bytes_eq.1 (plT_hit h))
  unfold underB
  rw [bytes_ne.2 hb, underN, ovB_ge hp, if_pos nil_empty]
  rfl
/-- the act of GateUncovered: the rule allows it .. -/
theorem unc_yes {Ts : List Tm} {Rs : List Ru} {r : Ru} {k t : ByteArray} (hok : allokB Ts Rs r = true) (hm : (num (missP Ts Rs r) == 0) = false) (ha : IsAct Ts Rs r k t) : allowsB Ts r (leastP (missP Ts Rs r)) k t r.pf = true := by
  obtain ⟨ht, hr, _⟩ := allok_iff.1 hok
  obtain ⟨_, hp, _⟩ := least_is _ hm
  unfold missP at hp
  rw [Bool.and_eq_true] at hp
  have hp1 : hasV r.vb (leastP (missP Ts Rs r)) = true := hp.1
  obtain ⟨h1, h2⟩ := ha
  unfold allowsB givesP matchB
  rw [ht, hr, hp1, begins_refl]
  simp only [Bool.true_and, Bool.and_true, Bool.and_eq_true, Bool.or_eq_true]
  constructor
  · cases e : r.kd.toList.isEmpty with
    | true => exact Or.inl rfl
    | false => rw [e, if_neg (by simp)] at h1; exact Or.inr (bytes_eq.2 h1.symm)
  · cases e : r.tm.toList.isEmpty with
    | true => exact Or.inl rfl
    | false => rw [e, if_neg (by simp)] at h2; rw [h2]; exact Or.inr (under_refl _ _)
/-- .. and none of the rules does -/
theorem unc_no {Ts : List Tm} {Rs : List Ru} {r : Ru} {k t : ByteArray} (hm : (num (missP Ts Rs r) == 0) = false) (ha : IsAct Ts Rs r k t) {q : Ru} (hq : q ∈ Rs) : allowsB Ts q (leastP (missP Ts Rs r)) k t r.pf = false := by
  obtain ⟨_, hp, _⟩ := least_is _ hm
  obtain ⟨h1, h2⟩ := ha
  cases hc : allowsB Ts q (leastP (missP Ts Rs r)) k t r.pf with
  | false => rfl
  | true =>
    exfalso
    generalize leastP (missP Ts Rs r) = v at *
    unfold missP at hp
    rw [Bool.and_eq_true, Bool.not_eq_true', List.any_eq_false] at hp
    refine hp.2 q hq ?_
    unfold allowsB givesP matchB at hc
    simp only [Bool.and_eq_true, Bool.or_eq_true] at hc
    obtain ⟨_, ⟨⟨g1, g2⟩, g3⟩, g4⟩ := hc
    unfold givesP matchB
    simp only [Bool.and_eq_true, Bool.or_eq_true]
    refine ⟨⟨⟨?_, ?_⟩, g3⟩, g4⟩
    · rcases g1 with g1 | g1
      · exact Or.inl g1
      · cases e : r.kd.toList.isEmpty with
        | false => rw [e, if_neg (by simp)] at h1; rw [← h1]; exact Or.inr g1
        | true =>
          rw [e, if_pos rfl] at h1
          obtain ⟨_, _, hn, _⟩ := h1
          have : hasB (kindsL Rs) k = true := hasB_mem.2 (by rw [← bytes_eq.1 g1]; exact List.mem_map_of_mem hq)
          rw [this] at hn; cases hn
    · rcases g2 with g2 | g2
      · exact Or.inl g2
      · cases e : r.tm.toList.isEmpty with
        | false => rw [e, if_neg (by simp)] at h2; rw [← h2]; exact Or.inr g2
        | true =>
          rw [e, if_pos rfl] at h2
          obtain ⟨_, _, hn, _⟩ := h2
          have hall : ∀ s, s ∈ teamsL Ts Rs → s ≠ t := fun s hs e' => by
            have : hasB (teamsL Ts Rs) t = true := hasB_mem.2 (e' ▸ hs)
            rw [this] at hn; cases hn
          rw [under_new (fun x hx => hall _ (List.mem_append_left _ (List.mem_map_of_mem hx))) (fun e' => hall q.tm (List.mem_append_right _ (List.mem_map_of_mem hq)) e'.symm)] at g2
          cases g2
end Go.Proofs.YtobijdenhbpdfaaDoor
