
import Derived.Test.YtobijdenhbpdfaaDoorD11
import Derived.Test.YtobijdenhbpdfaaDoorD7
import Derived.Test.YtobijdenhbpdfaaDoorU2
namespace Go.Proofs.YtobijdenhbpdfaaDoor
open Go.RowKit Go.Deep

/-- the cells of rules -/
def rvs : List (Value × Ru) → List Value
  | [] => []
  | x :: L => x.1 :: .string x.2.kd :: .string x.2.tm :: .string x.2.pf :: rvs L
theorem rvs_len : ∀ L : List (Value × Ru), (rvs L).length = L.length * 4
  | [] => rfl
  | x :: L => by simp only [rvs, List.length_cons, rvs_len L]; omega
theorem rvs_at : ∀ (L : List (Value × Ru)) (i : Nat) (h : i < L.length), (rvs L)[i * 4]? = some L[i].1 ∧ (rvs L)[i * 4 + 1]? = some (.string L[i].2.kd) ∧ (rvs L)[i * 4 + 2]? = some (.string L[i].2.tm) ∧ (rvs L)[i * 4 + 3]? = some (.string L[i].2.pf)
  | [], i, h => by simp at h
  | x :: L, 0, _ => ⟨rfl, rfl, rfl, rfl⟩
  | x :: L, i + 1, h => by
    have := rvs_at L i (by simpa using h)
    rw [show (i + 1) * 4 = i * 4 + 1 + 1 + 1 + 1 by omega]
    exact this
theorem rvs_app : ∀ (A B : List (Value × Ru)), rvs (A ++ B) = rvs A ++ rvs B
  | [], B => rfl
  | x :: A, B => by simp only [List.cons_append, rvs, rvs_app A B]
def NotIn (g : Nat) (v : Value) : Prop := ∀ a n c, v = .slice (some a) n c → a.block ≠ g
theorem IntsIn.grown {base g : Nat} {W W' : World} {v : Value} {L : List Int} (h : IntsIn base W v L) (hg : W.grownBy W' (some g)) (hn : NotIn g v) : IntsIn base W' v L := by
  rcases h with h | ⟨b, off, cap, h1, h2, h3, h4, h5, h6⟩
  · exact Or.inl h
  · exact Or.inr ⟨b, off, cap, h1, h2, h3, Nat.lt_of_lt_of_le h4 hg.size, h5, fun i hi => (World.cell?_of_block (a := ⟨b, off + i, none⟩) (hg.block b h4 (fun e => hn _ _ _ h1 (Option.some.inj e)))).trans (h6 i hi)⟩
theorem IntsIn.notIn {base g : Nat} {W : World} {v : Value} {L : List Int} (h : IntsIn base W v L) (hL : L ≠ []) (hg : W.heap.size ≤ g) : NotIn g v := by
  rcases h with ⟨_, _, _, h⟩ | ⟨b, off, cap, h1, h2, h3, h4, h5, h6⟩
  · exact absurd h hL
  · intro a n c e
    rw [h1] at e
    injection e with e
    injection e with e
    rw [← e]
    show b ≠ g
    omega
/-- rules and their verbs, in a row of a call's own making -/
structure RuOwn (base g cap : Nat) (L : List (Value × Ru)) (W : World) : Prop where
  own : W.ownsRow base 27 4 (.slice (some ⟨g, 0, none⟩) L.length cap) L.length (rvs L)
  ints : ∀ x ∈ L, IntsIn base W x.1 x.2.vb ∧ RuSize x.2 ∧ (x.2.vb = [] ∨ NotIn g x.1)
theorem RuOwn.tch {base ρ g cap : Nat} {L : List (Value × Ru)} {W W' : World} (h : RuOwn base g cap L W) (ht : Tch ρ W W') (hl : ρ < base) : RuOwn base g cap L W' :=
  ⟨owns_tch h.own ht hl, fun x hx => ⟨(h.ints x hx).1.tch ht hl, (h.ints x hx).2⟩⟩
theorem RuOwn.ge {base g cap : Nat} {L : List (Value × Ru)} {W : World} (h : RuOwn base g cap L W) : base ≤ g ∧ g < W.heap.size := by
  have := owns_lt h.own (g := g) rfl
  exact ⟨this.2, this.1⟩
theorem RuOwn.app {base g cap g' cap' : Nat} {L : List (Value × Ru)} {W W1 W' : World} (h : RuOwn base g cap L W) (hb1 : Below W.heap.size W W1) (x : Value × Ru) (hx : IntsIn base W1 x.1 x.2.vb) (hz : RuSize x.2) (hn : x.2.vb = [] ∨ NotIn g x.1)
    (hown : W'.ownsRow base 27 4 (.slice (some ⟨g', 0, none⟩) (L.length + 1) cap') (L.length + 1) (rvs L ++ [x.1, .string x.2.kd, .string x.2.tm, .string x.2.pf])) (hgrow : W1.grownBy W' (Value.slice (some ⟨g, 0, none⟩) L.length cap).ownBlock)
    (hat : (Value.slice (some ⟨g, 0, none⟩) L.length cap).ownBlock = some g' ∨ g' = W1.heap.size) (hbase : base ≤ W.heap.size) : RuOwn base g' cap' (L ++ [x]) W' ∧ Below base W1 W' := by
  have hg : W1.grownBy W' (some g) := hgrow
  refine ⟨⟨by rw [List.length_append, rvs_app]; exact hown, fun y hy => ?_⟩, owns_grown (owns_below h.own hb1) hgrow (Nat.le_trans hbase hb1.size)⟩
  have hy1 : IntsIn base W1 y.1 y.2.vb ∧ RuSize y.2 ∧ (y.2.vb = [] ∨ NotIn g y.1) := by
    rcases List.mem_append.1 hy with hy | hy
    · exact ⟨(h.ints y hy).1.below hb1, (h.ints y hy).2⟩
    · rw [List.mem_singleton.1 hy]; exact ⟨hx, hz, hn⟩
  obtain ⟨g1, g2, g3⟩ := hy1
  rcases g3 with g3 | g3
  · refine ⟨?_, g2, Or.inl g3⟩
    rcases g1 with g1 | ⟨_, _, _, _, g4, _⟩
    · exact Or.inl g1
    · exact absurd g3 g4
  · refine ⟨g1.grown hg g3, g2, ?_⟩
    by_cases hv : y.2.vb = []
    · exact Or.inl hv
    · rcases hat with hat | hat
      · exact Or.inr ((show g = g' from Option.some.inj hat) ▸ g3)
      · exact Or.inr (g1.notIn hv (by omega))
theorem RuOwn.rus {base g cap n : Nat} {L : List (Value × Ru)} {W : World} (h : RuOwn base g cap L W) (hn : L.length = n) : RusAt base W (.slice (some ⟨g, 0, none⟩) n cap) (L.map Prod.snd) := by
  subst hn
  by_cases hR : L = []
  · subst hR; exact Or.inl ⟨_, _, rfl, rfl⟩
  · have hl := h.ge
    have hm : L.length ≤ cap ∧ cap ≤ maxLen := by
      rcases h.own.2 with ⟨hv, _⟩ | ⟨g', cap', cur, hv, h1, h2, h3, h4, _⟩
      · cases hv
      · injection hv with e1 e2 e3
        rw [e3]
        exact ⟨h3, h4⟩
    refine Or.inr ⟨g, 0, cap, by rw [List.length_map], by simpa using hR, by rw [List.length_map]; exact Nat.le_trans hm.1 hm.2, hl.2, hl.1, by rw [List.length_map]; exact hm.1, fun i hi => ?_⟩
    have hi' : i < L.length := by simpa using hi
    obtain ⟨c0, c1, c2, c3⟩ := rvs_at L i hi'
    have hx := h.ints _ (List.getElem_mem hi')
    rw [List.getElem_map]
    have ce : ∀ j, j < 4 → W.cell? ⟨g, 0 + i * 4 + j, none⟩ = (rvs L)[i * 4 + j]? := fun j hj => by rw [Nat.zero_add]; exact h.own.cellAt _ (by omega)
    exact ⟨hx.2.1, L[i].1, ⟨(ce 0 (by omega)).trans c0, (ce 1 (by omega)).trans c1, (ce 2 (by omega)).trans c2, (ce 3 (by omega)).trans c3⟩, hx.1⟩
theorem RusAt.setLow {lo : Nat} {w : World} {v : Value} {Rs : List Ru} (h : RusAt lo w v Rs) {p : Addr} (hp : p.block < lo) (u : Value) : RusAt lo (w.setCell p u) v Rs := by
  rcases h with h | ⟨b, off, cap, h1, h2, h3, h4, h5, h6, h7⟩
  · exact Or.inl h
  · refine Or.inr ⟨b, off, cap, h1, h2, h3, by simpa [World.setCell] using h4, h5, h6, fun i hi => ?_⟩
    obtain ⟨hs, vv, hc, hv⟩ := h7 i hi
    have e : ∀ o, (w.setCell p u).cell? ⟨b, o, none⟩ = w.cell? ⟨b, o, none⟩ := fun o => cell_setCell_ne w p ⟨b, o, none⟩ u (by show b ≠ p.block; omega)
    exact ⟨hs, vv, ⟨by rw [e]; exact hc.c0, by rw [e]; exact hc.c1, by rw [e]; exact hc.c2, by rw [e]; exact hc.c3⟩, hv.setCell hp u⟩
theorem cell_new4 (X : World) (g : Nat) (a b c d : Value) (t : TypeId) (hg : X.heap.size = g) : ∀ j x, [a, b, c, d][j]? = some x → (X.alloc (.cells #[a, b, c, d] t)).cell? ((⟨g, 0, none⟩ : Addr).add j) = some x := by
  intro j x hx
  subst hg
  rw [Go.WideShapes.add_plain, Nat.zero_add]
  match j, hx with
  | 0, hx => simpa using hx
  | 1, hx => simpa using hx
  | 2, hx => simpa using hx
  | 3, hx => simpa using hx
theorem four_oneCell (a : Option Addr) (n c : Nat) (s t r : ByteArray) : ∀ u ∈ [Value.slice a n c, .string s, .string t, .string r], u.oneCell' = true := fun u hu => by
  simp only [List.mem_cons, List.not_mem_nil, or_false] at hu
  rcases hu with rfl | rfl | rfl | rfl <;> rfl
theorem RuFew.size {r : Ru} (h : RuFew r) : RuSize r := ⟨by have := h.k; unfold maxLen; omega, by have := h.t; unfold maxLen; omega, by have := h.f; unfold maxLen; omega⟩
theorem ruleInfo : (Tryd.prog.info? 27).map (fun i => (i.zero, i.size, i.bytes)) = some (some (.agg #[.slice none 0 0, .string ⟨#[]⟩, .string ⟨#[]⟩, .string ⟨#[]⟩]), 4, 72) := by kernel_rfl
theorem IntsIn.cut {lo : Nat} {w : World} {a : Option Addr} {n c : Nat} {L : List Int} (h : IntsIn lo w (.slice a n c) L) (m : Nat) (hm : m ≤ L.length) : IntsIn lo w (.slice a m c) (L.take m) := by
  rcases h with ⟨a', c', e, h⟩ | ⟨b, off, cap, h1, h2, h3, h4, h5, h6⟩
  · subst h
    simp at hm
    subst hm
    exact Or.inl ⟨a, c, rfl, rfl⟩
  · injection h1 with e1 e2 e3
    subst e1 e3
    have hl : (L.take m).length = m := by rw [List.length_take]; omega
    by_cases h0 : m = 0
    · subst h0; exact Or.inl ⟨_, _, rfl, rfl⟩
    · refine Or.inr ⟨b, off, c, by rw [hl], fun e => by rw [e] at hl; simp at hl; omega, by rw [hl]; omega, h4, h5, fun i hi => ?_⟩
      rw [hl] at hi
      rw [List.getElem_take]
      exact h6 i (by omega)
end Go.Proofs.YtobijdenhbpdfaaDoor
