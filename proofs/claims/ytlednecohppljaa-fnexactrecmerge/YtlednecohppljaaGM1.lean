
import Derived.Test.YtlednecohppljaaGM0
import Derived.Test.YtlednecohppljaaIA
namespace Go.Proofs.Ytlednecohppljaa
open Go.RowKit Go.Deep

/-! what merging says -/
def mrg (x y : Rs) : Rs := if x.ba < y.ba then y else x
def mergeL : List Rs → List Rs → List Rs
  | [], b => b
  | x :: a, [] => x :: a
  | x :: a, y :: b => mrg x y :: mergeL a b
theorem mergeL_nil (a : List Rs) : mergeL a [] = a := by cases a <;> rfl
theorem mergeL_len : ∀ a b : List Rs, (mergeL a b).length = max a.length b.length
  | [], b => by simp [mergeL]
  | x :: a, [] => by simp [mergeL]
  | x :: a, y :: b => by simp only [mergeL, List.length_cons, mergeL_len a b]; omega
/-- one more of b: behind the end -/
theorem mergeL_more : ∀ (a b : List Rs) (k : Nat) (h : k < b.length), a.length ≤ k → mergeL a (b.take (k + 1)) = mergeL a (b.take k) ++ [b[k]]
  | [], b, k, h, _ => by
    simp only [mergeL]
    rw [List.take_succ_eq_append_getElem h]
  | x :: a, [], k, h, _ => by simp at h
  | x :: a, y :: b, 0, h, hk => by simp at hk
  | x :: a, y :: b, k + 1, h, hk => by
    simp only [List.take_succ_cons, mergeL, List.cons_append, List.getElem_cons_succ]
    rw [mergeL_more a b k (by simpa using h) (by simpa using hk)]
/-- one more of b: inside -/
theorem mergeL_in : ∀ (a b : List Rs) (k : Nat) (h : k < b.length) (ha : k < a.length), mergeL a (b.take (k + 1)) = (mergeL a (b.take k)).set k (mrg a[k] b[k])
  | [], b, k, h, ha => by simp at ha
  | x :: a, [], k, h, _ => by simp at h
  | x :: a, y :: b, 0, h, ha => by simp [mergeL, mergeL_nil]
  | x :: a, y :: b, k + 1, h, ha => by
    simp only [List.take_succ_cons, mergeL, List.set_cons_succ, List.getElem_cons_succ]
    rw [mergeL_in a b k (by simpa using h) (by simpa using ha)]
theorem mergeL_at : ∀ (a b : List Rs) (k : Nat) (ha : k < a.length) (hk : k < (mergeL a (b.take k)).length), (mergeL a (b.take k))[k] = a[k]
  | [], b, k, ha, _ => by simp at ha
  | x :: a, [], k, ha, hk => by simp [mergeL]
  | x :: a, y :: b, 0, ha, hk => by simp [mergeL]
  | x :: a, y :: b, k + 1, ha, hk => by
    simp only [List.take_succ_cons, mergeL, List.getElem_cons_succ]
    exact mergeL_at a b k (by simpa using ha) _
theorem mergeL_keep {a b : List Rs} {k : Nat} (h : k < b.length) (ha : k < a.length) (hq : ¬ a[k].ba < b[k].ba) : mergeL a (b.take (k + 1)) = mergeL a (b.take k) := by
  have hl : k < (mergeL a (b.take k)).length := by rw [mergeL_len]; omega
  rw [mergeL_in a b k h ha, mrg, if_neg hq]
  conv => lhs; rw [← mergeL_at a b k ha hl]
  exact List.set_getElem_self _
theorem mergeL_put {a b : List Rs} {k : Nat} (h : k < b.length) (ha : k < a.length) (hq : a[k].ba < b[k].ba) : mergeL a (b.take (k + 1)) = (mergeL a (b.take k)).set k b[k] := by
  rw [mergeL_in a b k h ha, mrg, if_pos hq]
/-- the program's way: the first of both, then what is left of each -/
def both (a b : List Rs) (k : Nat) : List Rs := (List.range k).map (fun i => mrg (a.getD i ⟨0, ⟨#[]⟩⟩) (b.getD i ⟨0, ⟨#[]⟩⟩))
theorem both_len (a b : List Rs) (k : Nat) : (both a b k).length = k := by unfold both; simp
theorem both_succ (a b : List Rs) (k : Nat) (ha : k < a.length) (hb : k < b.length) : both a b (k + 1) = both a b k ++ [mrg a[k] b[k]] := by
  unfold both
  rw [List.range_succ, List.map_append]
  simp [List.getD_eq_getElem?_getD, ha, hb]
theorem merge_two : ∀ a b : List Rs, mergeL a b = both a b (min a.length b.length) ++ a.drop (min a.length b.length) ++ b.drop (min a.length b.length)
  | [], b => by simp [mergeL, both]
  | x :: a, [] => by simp [mergeL, both]
  | x :: a, y :: b => by
    have hm : min (a.length + 1) (b.length + 1) = min a.length b.length + 1 := by omega
    simp only [mergeL, List.length_cons, hm, List.drop_succ_cons]
    rw [merge_two a b]
    unfold both
    rw [List.range_succ_eq_map, List.map_cons, List.map_map]
    simp only [List.cons_append]
    congr 1
/-- a thing is put in the place of another -/
theorem LR.store {w : World} {base g cap : Nat} {L : List Rs} (h : LR w base g cap L) {k : Nat} (hk : k < L.length) (x : Rs) (hx : RsSize x) :
    LR ((w.setCell ⟨g, k * 2, none⟩ (.int .i64 x.ba)).setCell ⟨g, k * 2 + 1, none⟩ (.string x.tx)) base g cap (L.set k x) := by
  have hle := h.le
  have hf : ∀ (W : World) (p : Addr) (u : Value) (q : Addr), (W.setCell p u).frozen? q = W.frozen? q := fun W p u q => World.frozen?_setCell _ _ _ _
  have hc : ∀ j, ((w.setCell ⟨g, k * 2, none⟩ (.int .i64 x.ba)).setCell ⟨g, k * 2 + 1, none⟩ (.string x.tx)).cell? ⟨g, j, none⟩ = if j = k * 2 + 1 then some (.string x.tx) else if j = k * 2 then some (.int .i64 x.ba) else w.cell? ⟨g, j, none⟩ := by
    intro j
    have s1 : (w.cell? ⟨g, k * 2, none⟩).isSome = true := h.th _ (by omega)
    have s2 : (w.cell? ⟨g, k * 2 + 1, none⟩).isSome = true := h.th _ (by omega)
    have := World.cell?_setCells_in g [.int .i64 x.ba, .string x.tx] (k * 2) w (fun j hj => h.th _ (by simp at hj; omega))
    by_cases e1 : j = k * 2 + 1
    · subst e1
      rw [if_pos rfl]
      exact this 1 (by simp)
    · rw [if_neg e1]
      by_cases e2 : j = k * 2
      · subst e2
        rw [if_pos rfl]
        exact this 0 (by simp)
      · rw [if_neg e2]
        exact World.cell?_setCells_out g [.int .i64 x.ba, .string x.tx] (k * 2) w ⟨g, j, none⟩ (fun _ _ => by simp only [List.length_cons, List.length_nil]; omega)
  refine ⟨h.bs, by simpa [World.setCell] using h.lt, by rw [List.length_set]; exact h.le, h.mx, fun j hj => ?_, fun j => by rw [hf, hf]; exact h.fz j, fun j u hu => ?_, fun i hi => ?_⟩
  · rw [hc]
    split
    · rfl
    · split
      · rfl
      · exact h.th j hj
  · rw [Nat.zero_add, hc]
    have hj := (List.getElem?_eq_some_iff.1 hu).1
    rw [flatV_len rsL_len, List.length_set] at hj
    have hi : j / 2 < (L.set k x).length := by rw [List.length_set]; omega
    have e0 := flatV_get rsL_len (L.set k x) (j / 2) (j % 2) hi (by omega)
    rw [show j / 2 * 2 + j % 2 = j by omega, hu, List.getElem_set] at e0
    by_cases e1 : j = k * 2 + 1
    · rw [if_pos e1]
      rw [if_pos (by omega), show j % 2 = 1 by omega] at e0
      exact e0.symm
    · rw [if_neg e1]
      by_cases e2 : j = k * 2
      · rw [if_pos e2]
        rw [if_pos (by omega), show j % 2 = 0 by omega] at e0
        exact e0.symm
      · rw [if_neg e2]
        have hi' : j / 2 < L.length := by omega
        rw [if_neg (by omega)] at e0
        have e3 := flatV_get rsL_len L (j / 2) (j % 2) hi' (by omega)
        rw [show j / 2 * 2 + j % 2 = j by omega, ← e0] at e3
        have := h.rg j u e3
        rwa [Nat.zero_add] at this
  · rw [List.getElem_set]
    split
    · exact hx
    · exact h.sz i (by simpa using hi)
end Go.Proofs.Ytlednecohppljaa
