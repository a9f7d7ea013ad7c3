
import Derived.Test.YtobijdenhbpdfaaDoorD9
import Derived.Test.YtobijdenhbpdfaaDoorD4
import Derived.Test.YtobijdenhbpdfaaDoorD6
import Derived.Laws.OwnMore
namespace Go.Proofs.YtobijdenhbpdfaaDoor
open Go.RowKit Go.Deep

/-- the cells of teams -/
def tvs : List Tm → List Value
  | [] => []
  | t :: Ts => .string t.nm :: .string t.ov :: tvs Ts
theorem tvs_len : ∀ Ts : List Tm, (tvs Ts).length = Ts.length * 2
  | [] => rfl
  | t :: Ts => by simp only [tvs, List.length_cons, tvs_len Ts]; omega
theorem tvs_at : ∀ (Ts : List Tm) (i : Nat) (h : i < Ts.length), (tvs Ts)[i * 2]? = some (.string Ts[i].nm) ∧ (tvs Ts)[i * 2 + 1]? = some (.string Ts[i].ov)
  | [], i, h => by simp at h
  | t :: Ts, 0, _ => ⟨rfl, rfl⟩
  | t :: Ts, i + 1, h => by
    have := tvs_at Ts i (by simpa using h)
    rw [show (i + 1) * 2 = i * 2 + 1 + 1 by omega]
    exact this
theorem tvs_app : ∀ (A B : List Tm), tvs (A ++ B) = tvs A ++ tvs B
  | [], B => rfl
  | t :: A, B => by simp only [List.cons_append, tvs, tvs_app A B]
theorem tvs_set0 : ∀ (Ts : List Tm) (i : Nat) (h : i < Ts.length) (s : ByteArray), (tvs Ts).set (i * 2) (.string s) = tvs (Ts.set i ⟨s, Ts[i].ov⟩)
  | [], i, h, _ => by simp at h
  | t :: Ts, 0, _, s => rfl
  | t :: Ts, i + 1, h, s => by
    have := tvs_set0 Ts i (by simpa using h) s
    rw [show (i + 1) * 2 = i * 2 + 1 + 1 by omega]
    simp only [tvs, List.set_cons_succ, List.getElem_cons_succ, this]
theorem tvs_set1 : ∀ (Ts : List Tm) (i : Nat) (h : i < Ts.length) (s : ByteArray), (tvs Ts).set (i * 2 + 1) (.string s) = tvs (Ts.set i ⟨Ts[i].nm, s⟩)
  | [], i, h, _ => by simp at h
  | t :: Ts, 0, _, s => rfl
  | t :: Ts, i + 1, h, s => by
    have := tvs_set1 Ts i (by simpa using h) s
    rw [show (i + 1) * 2 + 1 = i * 2 + 1 + 1 + 1 by omega]
    simp only [tvs, List.set_cons_succ, List.getElem_cons_succ, this]
theorem tvs_one (Ts : List Tm) : ∀ u ∈ tvs Ts, u.oneCell' = true := by
  induction Ts with
  | nil => intro u hu; cases hu
  | cons t Ts ih =>
    intro u hu
    rcases List.mem_cons.1 hu with rfl | hu
    · rfl
    · rcases List.mem_cons.1 hu with rfl | hu
      · rfl
      · exact ih u hu
def FewT (Ts : List Tm) : Prop := ∀ t ∈ Ts, t.nm.size ≤ 1000 ∧ t.ov.size ≤ 1000
theorem FewT.app {A B : List Tm} (h : FewT A) (h' : FewT B) : FewT (A ++ B) := fun t ht => by
  rcases List.mem_append.1 ht with ht | ht
  · exact h t ht
  · exact h' t ht
theorem FewT.set {A : List Tm} (h : FewT A) (i : Nat) {x : Tm} (hx : x.nm.size ≤ 1000 ∧ x.ov.size ≤ 1000) : FewT (A.set i x) := fun t ht => by
  rcases List.mem_or_eq_of_mem_set ht with ht | rfl
  · exact h t ht
  · exact hx
theorem FewT.one {x : Tm} (hx : x.nm.size ≤ 1000 ∧ x.ov.size ≤ 1000) : FewT [x] := fun t ht => by rw [List.mem_singleton.1 ht]; exact hx
theorem owns_tms {base g cap : Nat} {W : World} {Ts : List Tm} (h : W.ownsRow base 71 2 (.slice (some ⟨g, 0, none⟩) Ts.length cap) Ts.length (tvs Ts)) (hs : FewT Ts) : TmsAt base W (.slice (some ⟨g, 0, none⟩) Ts.length cap) Ts := by
  by_cases hR : Ts = []
  · subst hR; exact Or.inl ⟨_, _, rfl, rfl⟩
  · have hl := owns_lt h (g := g) rfl
    have hm : Ts.length ≤ cap ∧ cap ≤ maxLen := by
      rcases h.2 with ⟨hv, _⟩ | ⟨g', cap', cur, hv, h1, h2, h3, h4, _⟩
      · cases hv
      · injection hv with e1 e2 e3
        rw [e3]
        exact ⟨h3, h4⟩
    refine Or.inr ⟨g, 0, cap, rfl, hR, Nat.le_trans hm.1 hm.2, hl.1, hl.2, hm.1, fun i hi => ?_⟩
    have h1 := hs _ (List.getElem_mem hi)
    obtain ⟨c0, c1⟩ := tvs_at Ts i hi
    refine ⟨⟨by unfold maxLen; omega, by unfold maxLen; omega⟩, ?_, ?_⟩
    · rw [Nat.zero_add, h.cellAt _ (by omega)]; exact c0
    · rw [Nat.zero_add, h.cellAt _ (by omega)]; exact c1
theorem TmsAt.news {lo : Nat} {w W : World} {b off n cap : Nat} {Ts : List Tm} (h : TmsAt lo w (.slice (some ⟨b, off, none⟩) n cap) Ts) (hb : Below w.heap.size w W) : ∀ j u, (tvs Ts)[j]? = some u → W.cell? ((⟨b, off, none⟩ : Addr).add j) = some u := by
  intro j u hu
  have hj : j < Ts.length * 2 := by
    have := (List.getElem?_eq_some_iff.1 hu).1
    rw [tvs_len] at this
    exact this
  obtain ⟨b', off', e, hbw, hc⟩ := h.full' (by omega)
  injection e with e
  injection e with e1 e2
  subst e1 e2
  obtain ⟨i, hi⟩ : ∃ i, j = i * 2 ∨ j = i * 2 + 1 := ⟨j / 2, by omega⟩
  have hil : i < Ts.length := by omega
  obtain ⟨_, c0, c1⟩ := hc i hil
  obtain ⟨d0, d1⟩ := tvs_at Ts i hil
  rw [Go.WideShapes.add_plain, hb.cell (p := ⟨b, off + j, none⟩) hbw]
  rcases hi with rfl | rfl
  · rw [d0] at hu; cases hu; exact c0
  · rw [d1] at hu; cases hu; exact c1
theorem field_teams (a b c : Value) (W : World) : (Instr.field 84 (.agg #[a, b, c]) 2).run Tryd.prog W = .ok c W := by
  simp [Instr.field, go_sem, run_underlying Tryd.underlying84, Result.andThen, asAgg]

def teams6 : List Tm := [⟨⟨#[100, 101, 118]⟩, ⟨#[]⟩⟩, ⟨⟨#[108, 97, 98]⟩, ⟨#[100, 101, 118]⟩⟩, ⟨⟨#[111, 112, 115]⟩, ⟨#[]⟩⟩, ⟨⟨#[114, 49]⟩, ⟨#[108, 97, 98]⟩⟩, ⟨⟨#[114, 50]⟩, ⟨#[114, 49]⟩⟩, ⟨⟨#[114, 51]⟩, ⟨#[114, 50]⟩⟩]
def teams3 : List Tm := [⟨⟨#[100, 101, 118]⟩, ⟨#[111, 112, 115]⟩⟩, ⟨⟨#[108, 97, 98]⟩, ⟨#[]⟩⟩, ⟨⟨#[111, 112, 115]⟩, ⟨#[108, 97, 98]⟩⟩]
theorem few6 : FewT teams6 := by unfold FewT; decide
theorem few3 : FewT teams3 := by unfold FewT; decide

set_option maxRecDepth 20000 in
set_option maxHeartbeats 2000000 in
theorem l4DrawTeams_any (ρ p : Nat) (bs : List UInt8) (w : World) (h : Rd w ρ p bs) (hp : p ≤ 100000000) :
    Calls Tryd.prog 29 #[.pointer (some ⟨ρ, 0, none⟩)] w fun e w' => ∃ (v : Value) (Ts : List Tm), e = .returned v ∧ TmsAt w.heap.size w' v Ts ∧ (1 ≤ Ts.length ∧ Ts.length ≤ 6) ∧ FewT Ts ∧ Rd w' ρ (p + 1) bs ∧ Tch ρ w w' := by
  have HR := hide h
  have hlt := h.lt
  clear h
  go_enter Tryd.func29, Tryd.ntmps29
  go_wp2_with fail
  refine (pick_any ρ p bs 4 w HR.out (by omega) (by decide) (by decide)).mono ?_
  rintro e w1 ⟨x, rfl, hx0, hx1, hr1, ht1⟩
  have HR1 := hide hr1
  have HT1 := hide ht1
  have hz := ht1.size
  clear hr1 ht1
  by_cases h0 : x = 0
  · subst h0
    go_wp2
    go_ret
    exact ⟨_, teams6, rfl, owns_tms (Ts := teams6) (World.ownsRow_lit w1 _ 6 hz (by unfold maxLen; decide) rfl) few6, by decide, few6, HR1.out.below (one_al _ _), HT1.out.trans (Tch.below (one_al _ _))⟩
  · have e0 : (x == 0) = false := by rw [beq_eq_false_iff_ne]; exact h0
    by_cases h1 : x = 1
    · subst h1
      go_wp2
      go_ret
      exact ⟨_, teams3, rfl, owns_tms (Ts := teams3) (World.ownsRow_lit w1 _ 3 hz (by unfold maxLen; decide) rfl) few3, by decide, few3, HR1.out.below (one_al _ _), HT1.out.trans (Tch.below (one_al _ _))⟩
    · have e1 : (x == 1) = false := by rw [beq_eq_false_iff_ne]; exact h1
      have hfd := field_teams
      go_wp2_with fail
      refine (l11Law_any _).mono ?_
      rintro e w2 ⟨vs, vm, vt, Ts, rfl, hT, hl, hf, hb⟩
      have HT2 := hide (hT.mono hz)
      have HF := hide hf
      have HB2 := hide hb
      clear hT hf hb
      go_wp2
      go_ret
      exact ⟨_, Ts, rfl, HT2.out, by omega, HF.out, HR1.out.below HB2.out, HT1.out.trans (Tch.below HB2.out)⟩
end Go.Proofs.YtobijdenhbpdfaaDoor
