import Derived.Test.YtmaagbnjpdijnaaVOXt
import Derived.Test.YtmaagbnjpdijnaaVCLE
import Derived.Deep.AppendLies
import Derived.Test.YtmaagbnjpdijnaaVM2
import Derived.Test.YtmaagbnjpdijnaaVBOG
import Derived.Test.YtmaagbnjpdijnaaVOWX
namespace Go.Proofs.Ytmaagbnjpdijnaa
open Go.RowKit Go.Deep

theorem Touch.grown {w w' : World} {g : Nat} (h : w.grownBy w' (some g)) : Touch g (g + 1) w w' := ⟨h.os, h.tape, h.output, h.size, fun k hk ho => h.block k hk fun e => by have := Option.some.inj e; omega⟩
theorem Below.grown {w w' : World} (h : w.grownBy w' none) : Below w.heap.size w w' := ⟨h.os, h.tape, h.output, h.size, fun k hk => h.block k hk fun e => by cases e⟩
theorem Below.ownsB {base : Nat} {e : TypeId} {sz n : Nat} {W W' : World} {v : Value} {cs : List Value} (h : W.ownsRow base e sz v n cs) (hb : Below W.heap.size W W') : W'.ownsRow base e sz v n cs := by
  refine ⟨h.1, ?_⟩
  have hlt := fun g hg => ownsB_lt h (g := g) hg
  rcases h.2 with hv | ⟨g, cap, cur, hv, h1, h2, h3⟩
  · exact Or.inl hv
  · have hg := hlt g (by rw [hv]; rfl)
    exact Or.inr ⟨g, cap, cur, hv, h1, by rw [hb.block g hg.1]; exact h2, h3⟩
theorem Touch.ownsB {base lo hi : Nat} {e : TypeId} {sz n : Nat} {W W' : World} {v : Value} {cs : List Value} (h : W.ownsRow base e sz v n cs) (ht : Touch lo hi W W') (hh : hi ≤ base) : W'.ownsRow base e sz v n cs := by
  refine ⟨h.1, ?_⟩
  have hlt := fun g hg => ownsB_lt h (g := g) hg
  rcases h.2 with hv | ⟨g, cap, cur, hv, h1, h2, h3⟩
  · exact Or.inl hv
  · have hg := hlt g (by rw [hv]; rfl)
    exact Or.inr ⟨g, cap, cur, hv, h1, by rw [ht.block g hg.1 (by omega)]; exact h2, h3⟩
theorem ownsB_form {base : Nat} {e : TypeId} {sz n : Nat} {W : World} {v : Value} {cs : List Value} (h : W.ownsRow base e sz v n cs) : ∃ a cap, v = .slice a n cap := by
  rcases h.2 with ⟨hv, hn⟩ | ⟨g, cap, cur, hv, _⟩
  · rw [hn]; exact ⟨_, _, hv⟩
  · exact ⟨_, _, hv⟩
theorem ownsB_none {base : Nat} (W : World) (e : TypeId) (sz : Nat) : W.ownsRow base e sz (.slice none 0 0) 0 [] := ⟨by simp, Or.inl ⟨rfl, rfl⟩⟩
/-- the cells of parts with their inner lists -/
def Obcs (x : Ob × Value × Value) : List Value := [.string x.1.kd, .string x.1.nm, .string x.1.tm, x.2.1, .bool x.1.en, x.2.2, .int .i64 x.1.ver]
def Obgs : List (Ob × Value × Value) → List Value
  | [] => []
  | x :: L => Obcs x ++ Obgs L
theorem Obgs_app : ∀ (A B : List (Ob × Value × Value)), Obgs (A ++ B) = Obgs A ++ Obgs B
  | [], B => rfl
  | x :: A, B => by simp only [List.cons_append, Obgs, Obgs_app A B, List.append_assoc]
theorem Obgs_at : ∀ (L : List (Ob × Value × Value)) (i : Nat) (h : i < L.length), (Obgs L)[i * 7]? = some (.string L[i].1.kd) ∧ (Obgs L)[i * 7 + 1]? = some (.string L[i].1.nm) ∧ (Obgs L)[i * 7 + 2]? = some (.string L[i].1.tm) ∧ (Obgs L)[i * 7 + 3]? = some (L[i].2.1) ∧ (Obgs L)[i * 7 + 4]? = some (.bool L[i].1.en) ∧ (Obgs L)[i * 7 + 5]? = some (L[i].2.2) ∧ (Obgs L)[i * 7 + 6]? = some (.int .i64 L[i].1.ver)
  | [], i, h => by simp at h
  | x :: L, 0, _ => ⟨rfl, rfl, rfl, rfl, rfl, rfl, rfl⟩
  | x :: L, i + 1, h => by
    have := Obgs_at L i (by simpa using h)
    have e : ∀ j, (Obgs (x :: L))[(i + 1) * 7 + j]? = (Obgs L)[i * 7 + j]? := fun j => by
      rw [show (i + 1) * 7 + j = (i * 7 + j) + 1 + 1 + 1 + 1 + 1 + 1 + 1 by omega]
      rfl
    have e0 : (Obgs (x :: L))[(i + 1) * 7]? = (Obgs L)[i * 7]? := e 0
    simp only [List.getElem_cons_succ]
    exact ⟨e0.trans this.1, (e 1).trans this.2.1, (e 2).trans this.2.2.1, (e 3).trans this.2.2.2.1, (e 4).trans this.2.2.2.2.1, (e 5).trans this.2.2.2.2.2.1, (e 6).trans this.2.2.2.2.2.2⟩
structure ObGrow (base : Nat) (W : World) (v : Value) (L : List (Ob × Value × Value)) (c : Nat → Nat × Nat) : Prop where
  own : W.ownsRow base 128 7 v L.length (Obgs L)
  sz : ∀ i (h : i < L.length), ObSize L[i].1
  inn : ∀ i (h : i < L.length), ∃ m1 : Nat, (c i).1 ≤ m1 ∧ m1 ≤ (c i).2 ∧ StrsOwn (c i).1 m1 W L[i].2.1 L[i].1.vs ∧ StrsOwn m1 (c i).2 W L[i].2.2 L[i].1.hs
  seg : ∀ i, i < L.length → base ≤ (c i).1 ∧ (c i).2 ≤ W.heap.size ∧ ∀ g, v.ownBlock = some g → g < (c i).1 ∨ (c i).2 ≤ g
  mono : ∀ i j, i < j → j < L.length → (c i).2 ≤ (c j).1
theorem ObGrow.start (base : Nat) (W : World) : ObGrow base W (.slice none 0 0) [] (fun _ => (0, 0)) :=
  ⟨ownsB_none _ _ _, fun i h => by simp at h, fun i h => by simp at h, fun i h => by simp at h, fun i j _ h => by simp at h⟩
theorem ObGrow.below {base : Nat} {W W' : World} {v : Value} {L : List (Ob × Value × Value)} {c : Nat → Nat × Nat} (h : ObGrow base W v L c) (hb : Below W.heap.size W W') : ObGrow base W' v L c :=
  ⟨Below.ownsB h.own hb, h.sz, fun i hi => by obtain ⟨m1, q0, q1, l0, l1⟩ := h.inn i hi; exact ⟨m1, q0, q1, l0.below hb, l1.below hb⟩, fun i hi => ⟨(h.seg i hi).1, Nat.le_trans (h.seg i hi).2.1 hb.size, (h.seg i hi).2.2⟩, h.mono⟩
theorem ObGrow.touch {base lo hi : Nat} {W W' : World} {v : Value} {L : List (Ob × Value × Value)} {c : Nat → Nat × Nat} (h : ObGrow base W v L c) (ht : Touch lo hi W W') (hh : hi ≤ base) : ObGrow base W' v L c :=
  ⟨Touch.ownsB h.own ht hh, h.sz, fun i hi => by have hsg := h.seg i hi; obtain ⟨m1, q0, q1, l0, l1⟩ := h.inn i hi; exact ⟨m1, q0, q1, l0.touch ht (by omega), l1.touch ht (by omega)⟩, fun i hi => ⟨(h.seg i hi).1, Nat.le_trans (h.seg i hi).2.1 ht.size, (h.seg i hi).2.2⟩, h.mono⟩
theorem ObGrow.snoc {base c0 c1 g cap m1 : Nat} {W W1 W' : World} {v : Value} {L : List (Ob × Value × Value)} {c : Nat → Nat × Nat} (h : ObGrow base W v L c) (hb1 : Below W.heap.size W W1) (x : Ob × Value × Value) (hz : ObSize x.1) (hc0 : W.heap.size ≤ c0) (hc1 : c1 ≤ W1.heap.size) (hbase : base ≤ W.heap.size) (q0 : c0 ≤ m1) (q1 : m1 ≤ c1) (e0 : StrsOwn c0 m1 W1 x.2.1 x.1.vs) (e1 : StrsOwn m1 c1 W1 x.2.2 x.1.hs)
    (hown : W'.ownsRow base 128 7 (.slice (some ⟨g, 0, none⟩) (L.length + 1) cap) (L.length + 1) (Obgs L ++ Obcs x)) (hgrow : W1.grownBy W' v.ownBlock) (hat : v.ownBlock = some g ∨ g = W1.heap.size) :
    ObGrow base W' (.slice (some ⟨g, 0, none⟩) (L.length + 1) cap) (L ++ [x]) (fun i => if i < L.length then c i else (c0, c1)) := by
  have hsz := hgrow.size
  have hs1 := hb1.size
  have hlen : (L ++ [x]).length = L.length + 1 := by simp
  have hgx : Obgs (L ++ [x]) = Obgs L ++ Obcs x := by rw [Obgs_app]; simp [Obgs]
  have hnew : ∀ lo hi, (∀ g', v.ownBlock = some g' → g' < lo ∨ hi ≤ g') → hi ≤ W1.heap.size → (Touch hi hi W1 W' ∨ ∃ g', Touch g' (g' + 1) W1 W' ∧ (g' < lo ∨ hi ≤ g')) := fun lo hi hv hhi => by
    cases hvo : v.ownBlock with
    | none => rw [hvo] at hgrow; exact Or.inl (Touch.below (Below.grown hgrow))
    | some g' => rw [hvo] at hgrow; exact Or.inr ⟨g', Touch.grown hgrow, hv g' hvo⟩
  have hlt := fun g' hg' => (ownsB_lt h.own (g := g') hg').1
  have hvb : ∀ g', v.ownBlock = some g' → g' < c0 ∨ c1 ≤ g' := fun g' hg' => Or.inl (by have := hlt g' hg'; omega)
  refine ⟨by rw [hlen, hgx]; exact hown, fun i hi => ?_, fun i hi => ?_, fun i hi => ?_, fun i j hij hj => ?_⟩
  · by_cases e : i < L.length
    · rw [List.getElem_append_left e]; exact h.sz i e
    · have e' : i = L.length := by omega
      subst e'
      simp only [List.getElem_append_right (Nat.le_refl _), Nat.sub_self, List.getElem_cons_zero]; exact hz
  · by_cases e : i < L.length
    · rw [List.getElem_append_left e, if_pos e]
      have hsg := h.seg i e
      obtain ⟨m1, q0, q1, l0, l1⟩ := h.inn i e
      rcases hnew (c i).1 (c i).2 hsg.2.2 (by omega) with ht | ⟨g', ht, hg'⟩
      · exact ⟨m1, q0, q1, (l0.below hb1).touch ht (by omega), (l1.below hb1).touch ht (by omega)⟩
      · exact ⟨m1, q0, q1, (l0.below hb1).touch ht (by omega), (l1.below hb1).touch ht (by omega)⟩
    · have e' : i = L.length := by omega
      subst e'
      rw [if_neg e]
      simp only [List.getElem_append_right (Nat.le_refl _), Nat.sub_self, List.getElem_cons_zero]
      rcases hnew c0 c1 hvb hc1 with ht | ⟨g', ht, hg'⟩
      · exact ⟨m1, q0, q1, e0.touch ht (by omega), e1.touch ht (by omega)⟩
      · exact ⟨m1, q0, q1, e0.touch ht (by omega), e1.touch ht (by omega)⟩
  · have hgg : ∀ g', (Value.slice (some ⟨g, 0, none⟩) (L.length + 1) cap).ownBlock = some g' → g' = g := fun g' hg' => (Option.some.inj hg').symm
    by_cases e : i < L.length
    · rw [if_pos e]
      have hsg := h.seg i e
      refine ⟨hsg.1, by omega, fun g' hg' => ?_⟩
      rw [hgg g' hg']
      rcases hat with hat | hat
      · exact hsg.2.2 g hat
      · exact Or.inr (by omega)
    · rw [if_neg e]
      refine ⟨by simp only []; omega, by simp only []; omega, fun g' hg' => ?_⟩
      rw [hgg g' hg']
      rcases hat with hat | hat
      · exact hvb g hat
      · exact Or.inr (by simp only []; omega)
  · rw [hlen] at hj
    by_cases e : j < L.length
    · rw [if_pos e, if_pos (by omega)]; exact h.mono i j hij e
    · rw [if_neg e, if_pos (by omega)]
      have := (h.seg i (by omega)).2.1
      simp only []
      omega
theorem ObGrow.owns {base : Nat} {W : World} {v : Value} {L : List (Ob × Value × Value)} {c : Nat → Nat × Nat} (h : ObGrow base W v L c) {Xl : List Ob} (hX : L.map Prod.fst = Xl) : ObsOwn base W.heap.size W v Xl := by
  subst hX
  by_cases hL : L = []
  · subst hL
    obtain ⟨a, cap, rfl⟩ := ownsB_form h.own
    exact Or.inl ⟨_, _, rfl, rfl⟩
  · rcases h.own.2 with ⟨_, hn⟩ | ⟨g, cap, cur, hv, h1, h2, h3, h4, _⟩
    · exact absurd (List.length_eq_zero_iff.1 hn) hL
    · have hl := ownsB_lt h.own (g := g) (by rw [hv]; rfl)
      have ho := h.own
      have hp : 0 < L.length := List.length_pos_iff.2 hL
      have hsg := h.seg
      subst hv
      refine Or.inr ⟨g, 0, cap, c, fun i => if h : i < L.length then L[i].1 else L[0].1, by rw [List.length_map], by simpa using hL, by rw [List.length_map]; exact Nat.le_trans h3 h4, by rw [List.length_map]; exact h3, fun i hi => ?_, hl.1, hl.2.1, hl.1, fun i hi => ?_, fun i j hij hj => ?_, fun i => hl.2.2 i, fun i hi => ?_⟩
      · have hi' : i < L.length := by simpa using hi
        simp [hi']
      · have hi' : i < L.length := by simpa using hi
        exact ⟨(hsg i hi').1, (hsg i hi').2.1, (hsg i hi').2.2 g rfl⟩
      · exact h.mono i j hij (by simpa using hj)
      · have hi' : i < L.length := by simpa using hi
        obtain ⟨d0, d1, d2, d3, d4, d5, d6⟩ := Obgs_at L i hi'
        obtain ⟨m1, q0, q1, l0, l1⟩ := h.inn i hi'
        have ce : ∀ j, j < 7 → W.cell? ⟨g, 0 + i * 7 + j, none⟩ = (Obgs L)[i * 7 + j]? := fun j hj => by rw [Nat.zero_add]; exact ho.cellAt _ (by omega)
        simp only [hi', dif_pos]
        exact ⟨h.sz i hi', _, _, m1, q0, q1, ⟨(ce 0 (by omega)).trans d0, (ce 1 (by omega)).trans d1, (ce 2 (by omega)).trans d2, (ce 3 (by omega)).trans d3, (ce 4 (by omega)).trans d4, (ce 5 (by omega)).trans d5, (ce 6 (by omega)).trans d6⟩, l0, l1⟩
end Go.Proofs.Ytmaagbnjpdijnaa

namespace Go.Proofs.Ytmaagbnjpdijnaa
open Go.RowKit Go.Deep

/-- the cells of parts with their inner lists -/
def Grcs (x : Gr × Value) : List Value := [.int .i64 x.1.nu, .string x.1.tw, .string x.1.gb, x.2, .string x.1.kd, .string x.1.tm, .string x.1.pf]
def Grgs : List (Gr × Value) → List Value
  | [] => []
  | x :: L => Grcs x ++ Grgs L
theorem Grgs_app : ∀ (A B : List (Gr × Value)), Grgs (A ++ B) = Grgs A ++ Grgs B
  | [], B => rfl
  | x :: A, B => by simp only [List.cons_append, Grgs, Grgs_app A B, List.append_assoc]
theorem Grgs_at : ∀ (L : List (Gr × Value)) (i : Nat) (h : i < L.length), (Grgs L)[i * 7]? = some (.int .i64 L[i].1.nu) ∧ (Grgs L)[i * 7 + 1]? = some (.string L[i].1.tw) ∧ (Grgs L)[i * 7 + 2]? = some (.string L[i].1.gb) ∧ (Grgs L)[i * 7 + 3]? = some (L[i].2) ∧ (Grgs L)[i * 7 + 4]? = some (.string L[i].1.kd) ∧ (Grgs L)[i * 7 + 5]? = some (.string L[i].1.tm) ∧ (Grgs L)[i * 7 + 6]? = some (.string L[i].1.pf)
  | [], i, h => by simp at h
  | x :: L, 0, _ => ⟨rfl, rfl, rfl, rfl, rfl, rfl, rfl⟩
  | x :: L, i + 1, h => by
    have := Grgs_at L i (by simpa using h)
    have e : ∀ j, (Grgs (x :: L))[(i + 1) * 7 + j]? = (Grgs L)[i * 7 + j]? := fun j => by
      rw [show (i + 1) * 7 + j = (i * 7 + j) + 1 + 1 + 1 + 1 + 1 + 1 + 1 by omega]
      rfl
    have e0 : (Grgs (x :: L))[(i + 1) * 7]? = (Grgs L)[i * 7]? := e 0
    simp only [List.getElem_cons_succ]
    exact ⟨e0.trans this.1, (e 1).trans this.2.1, (e 2).trans this.2.2.1, (e 3).trans this.2.2.2.1, (e 4).trans this.2.2.2.2.1, (e 5).trans this.2.2.2.2.2.1, (e 6).trans this.2.2.2.2.2.2⟩
structure GrGrow (base : Nat) (W : World) (v : Value) (L : List (Gr × Value)) (c : Nat → Nat × Nat) : Prop where
  own : W.ownsRow base 91 7 v L.length (Grgs L)
  sz : ∀ i (h : i < L.length), GrSize L[i].1
  inn : ∀ i (h : i < L.length), (c i).1 ≤ (c i).2 ∧ IntsOwn (c i).1 (c i).2 W L[i].2 L[i].1.vb
  seg : ∀ i, i < L.length → base ≤ (c i).1 ∧ (c i).2 ≤ W.heap.size ∧ ∀ g, v.ownBlock = some g → g < (c i).1 ∨ (c i).2 ≤ g
  mono : ∀ i j, i < j → j < L.length → (c i).2 ≤ (c j).1
theorem GrGrow.start (base : Nat) (W : World) : GrGrow base W (.slice none 0 0) [] (fun _ => (0, 0)) :=
  ⟨ownsB_none _ _ _, fun i h => by simp at h, fun i h => by simp at h, fun i h => by simp at h, fun i j _ h => by simp at h⟩
theorem GrGrow.below {base : Nat} {W W' : World} {v : Value} {L : List (Gr × Value)} {c : Nat → Nat × Nat} (h : GrGrow base W v L c) (hb : Below W.heap.size W W') : GrGrow base W' v L c :=
  ⟨Below.ownsB h.own hb, h.sz, fun i hi => by obtain ⟨q0, l0⟩ := h.inn i hi; exact ⟨q0, l0.below hb⟩, fun i hi => ⟨(h.seg i hi).1, Nat.le_trans (h.seg i hi).2.1 hb.size, (h.seg i hi).2.2⟩, h.mono⟩
theorem GrGrow.touch {base lo hi : Nat} {W W' : World} {v : Value} {L : List (Gr × Value)} {c : Nat → Nat × Nat} (h : GrGrow base W v L c) (ht : Touch lo hi W W') (hh : hi ≤ base) : GrGrow base W' v L c :=
  ⟨Touch.ownsB h.own ht hh, h.sz, fun i hi => by have hsg := h.seg i hi; obtain ⟨q0, l0⟩ := h.inn i hi; exact ⟨q0, l0.touch ht (by omega)⟩, fun i hi => ⟨(h.seg i hi).1, Nat.le_trans (h.seg i hi).2.1 ht.size, (h.seg i hi).2.2⟩, h.mono⟩
theorem GrGrow.snoc {base c0 c1 g cap : Nat} {W W1 W' : World} {v : Value} {L : List (Gr × Value)} {c : Nat → Nat × Nat} (h : GrGrow base W v L c) (hb1 : Below W.heap.size W W1) (x : Gr × Value) (hz : GrSize x.1) (hc0 : W.heap.size ≤ c0) (hc1 : c1 ≤ W1.heap.size) (hbase : base ≤ W.heap.size) (q0 : c0 ≤ c1) (e0 : IntsOwn c0 c1 W1 x.2 x.1.vb)
    (hown : W'.ownsRow base 91 7 (.slice (some ⟨g, 0, none⟩) (L.length + 1) cap) (L.length + 1) (Grgs L ++ Grcs x)) (hgrow : W1.grownBy W' v.ownBlock) (hat : v.ownBlock = some g ∨ g = W1.heap.size) :
    GrGrow base W' (.slice (some ⟨g, 0, none⟩) (L.length + 1) cap) (L ++ [x]) (fun i => if i < L.length then c i else (c0, c1)) := by
  have hsz := hgrow.size
  have hs1 := hb1.size
  have hlen : (L ++ [x]).length = L.length + 1 := by simp
  have hgx : Grgs (L ++ [x]) = Grgs L ++ Grcs x := by rw [Grgs_app]; simp [Grgs]
  have hnew : ∀ lo hi, (∀ g', v.ownBlock = some g' → g' < lo ∨ hi ≤ g') → hi ≤ W1.heap.size → (Touch hi hi W1 W' ∨ ∃ g', Touch g' (g' + 1) W1 W' ∧ (g' < lo ∨ hi ≤ g')) := fun lo hi hv hhi => by
    cases hvo : v.ownBlock with
    | none => rw [hvo] at hgrow; exact Or.inl (Touch.below (Below.grown hgrow))
    | some g' => rw [hvo] at hgrow; exact Or.inr ⟨g', Touch.grown hgrow, hv g' hvo⟩
  have hlt := fun g' hg' => (ownsB_lt h.own (g := g') hg').1
  have hvb : ∀ g', v.ownBlock = some g' → g' < c0 ∨ c1 ≤ g' := fun g' hg' => Or.inl (by have := hlt g' hg'; omega)
  refine ⟨by rw [hlen, hgx]; exact hown, fun i hi => ?_, fun i hi => ?_, fun i hi => ?_, fun i j hij hj => ?_⟩
  · by_cases e : i < L.length
    · rw [List.getElem_append_left e]; exact h.sz i e
    · have e' : i = L.length := by omega
      subst e'
      simp only [List.getElem_append_right (Nat.le_refl _), Nat.sub_self, List.getElem_cons_zero]; exact hz
  · by_cases e : i < L.length
    · rw [List.getElem_append_left e, if_pos e]
      have hsg := h.seg i e
      obtain ⟨q0, l0⟩ := h.inn i e
      rcases hnew (c i).1 (c i).2 hsg.2.2 (by omega) with ht | ⟨g', ht, hg'⟩
      · exact ⟨q0, (l0.below hb1).touch ht (by omega)⟩
      · exact ⟨q0, (l0.below hb1).touch ht (by omega)⟩
    · have e' : i = L.length := by omega
      subst e'
      rw [if_neg e]
      simp only [List.getElem_append_right (Nat.le_refl _), Nat.sub_self, List.getElem_cons_zero]
      rcases hnew c0 c1 hvb hc1 with ht | ⟨g', ht, hg'⟩
      · exact ⟨q0, e0.touch ht (by omega)⟩
      · exact ⟨q0, e0.touch ht (by omega)⟩
  · have hgg : ∀ g', (Value.slice (some ⟨g, 0, none⟩) (L.length + 1) cap).ownBlock = some g' → g' = g := fun g' hg' => (Option.some.inj hg').symm
    by_cases e : i < L.length
    · rw [if_pos e]
      have hsg := h.seg i e
      refine ⟨hsg.1, by omega, fun g' hg' => ?_⟩
      rw [hgg g' hg']
      rcases hat with hat | hat
      · exact hsg.2.2 g hat
      · exact Or.inr (by omega)
    · rw [if_neg e]
      refine ⟨by simp only []; omega, by simp only []; omega, fun g' hg' => ?_⟩
      rw [hgg g' hg']
      rcases hat with hat | hat
      · exact hvb g hat
      · exact Or.inr (by simp only []; omega)
  · rw [hlen] at hj
    by_cases e : j < L.length
    · rw [if_pos e, if_pos (by omega)]; exact h.mono i j hij e
    · rw [if_neg e, if_pos (by omega)]
      have := (h.seg i (by omega)).2.1
      simp only []
      omega
theorem GrGrow.owns {base : Nat} {W : World} {v : Value} {L : List (Gr × Value)} {c : Nat → Nat × Nat} (h : GrGrow base W v L c) {Xl : List Gr} (hX : L.map Prod.fst = Xl) : GrsOwn base W.heap.size W v Xl := by
  subst hX
  by_cases hL : L = []
  · subst hL
    obtain ⟨a, cap, rfl⟩ := ownsB_form h.own
    exact Or.inl ⟨_, _, rfl, rfl⟩
  · rcases h.own.2 with ⟨_, hn⟩ | ⟨g, cap, cur, hv, h1, h2, h3, h4, _⟩
    · exact absurd (List.length_eq_zero_iff.1 hn) hL
    · have hl := ownsB_lt h.own (g := g) (by rw [hv]; rfl)
      have ho := h.own
      have hp : 0 < L.length := List.length_pos_iff.2 hL
      have hsg := h.seg
      subst hv
      refine Or.inr ⟨g, 0, cap, c, fun i => if h : i < L.length then L[i].1 else L[0].1, by rw [List.length_map], by simpa using hL, by rw [List.length_map]; exact Nat.le_trans h3 h4, by rw [List.length_map]; exact h3, fun i hi => ?_, hl.1, hl.2.1, hl.1, fun i hi => ?_, fun i j hij hj => ?_, fun i => hl.2.2 i, fun i hi => ?_⟩
      · have hi' : i < L.length := by simpa using hi
        simp [hi']
      · have hi' : i < L.length := by simpa using hi
        exact ⟨(hsg i hi').1, (hsg i hi').2.1, (hsg i hi').2.2 g rfl⟩
      · exact h.mono i j hij (by simpa using hj)
      · have hi' : i < L.length := by simpa using hi
        obtain ⟨d0, d1, d2, d3, d4, d5, d6⟩ := Grgs_at L i hi'
        obtain ⟨q0, l0⟩ := h.inn i hi'
        have ce : ∀ j, j < 7 → W.cell? ⟨g, 0 + i * 7 + j, none⟩ = (Grgs L)[i * 7 + j]? := fun j hj => by rw [Nat.zero_add]; exact ho.cellAt _ (by omega)
        simp only [hi', dif_pos]
        exact ⟨h.sz i hi', _, q0, ⟨(ce 0 (by omega)).trans d0, (ce 1 (by omega)).trans d1, (ce 2 (by omega)).trans d2, (ce 3 (by omega)).trans d3, (ce 4 (by omega)).trans d4, (ce 5 (by omega)).trans d5, (ce 6 (by omega)).trans d6⟩, l0⟩
end Go.Proofs.Ytmaagbnjpdijnaa

