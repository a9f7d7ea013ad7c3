import Derived.Test.YtdeammfdkaomlaaGreatV30
import Derived.Test.YtdeammfdkaomlaaGreatV38
import Derived.Laws.IdiomStrings
import Derived.Laws.Concat
import Derived.Deep.RegionWith
namespace Go.Proofs.YtdeammfdkaomlaaGreat
open Go.RowKit Go.Deep

/-! rows that grow in a block of the call's own: things by their cells (f x, n of them), in a block of [lo, hi) -/
structure FR {X : Type} (f : X → List Value) (n : Nat) (w : World) (lo hi g cap : Nat) (L : List X) : Prop where
  bs : lo ≤ g
  up : g < hi
  lt : g < w.heap.size
  le : L.length ≤ cap
  mx : cap ≤ maxLen
  th : ∀ j, j < cap * n → (w.cell? ⟨g, j, none⟩).isSome = true
  fz : ∀ j, w.frozen? ⟨g, j, none⟩ = false
  rg : w.rangeAt g 0 (flatV f L)
theorem FR.below {X : Type} {f : X → List Value} {n : Nat} {w w' : World} {lo hi g cap : Nat} {L : List X} (h : FR f n w lo hi g cap L) (hb : Below w.heap.size w w') : FR f n w' lo hi g cap L :=
  ⟨h.bs, h.up, Nat.lt_of_lt_of_le h.lt hb.size, h.le, h.mx, fun j hj => by rw [hb.cell (p := ⟨g, j, none⟩) h.lt]; exact h.th j hj, fun j => by rw [hb.frozen (p := ⟨g, j, none⟩) h.lt]; exact h.fz j, rng_below h.rg hb h.lt⟩
theorem FR.touch {X : Type} {f : X → List Value} {n : Nat} {w w' : World} {lo hi g cap lo' hi' : Nat} {L : List X} (h : FR f n w lo hi g cap L) (ht : Touch lo' hi' w w') (ho : g < lo' ∨ hi' ≤ g) : FR f n w' lo hi g cap L :=
  ⟨h.bs, h.up, Nat.lt_of_lt_of_le h.lt ht.size, h.le, h.mx, fun j hj => by rw [ht.cell (p := ⟨g, j, none⟩) h.lt ho]; exact h.th j hj, fun j => by rw [ht.frozen (p := ⟨g, j, none⟩) h.lt ho]; exact h.fz j, fun j v hv => by rw [ht.cell (p := ⟨g, 0 + j, none⟩) h.lt ho]; exact h.rg j v hv⟩
theorem FR.wide {X : Type} {f : X → List Value} {n : Nat} {w : World} {lo hi g cap lo' hi' : Nat} {L : List X} (h : FR f n w lo hi g cap L) (h1 : lo' ≤ lo) (h2 : hi ≤ hi') : FR f n w lo' hi' g cap L :=
  ⟨Nat.le_trans h1 h.bs, Nat.lt_of_lt_of_le h.up h2, h.lt, h.le, h.mx, h.th, h.fz, h.rg⟩
def FRow {X : Type} (f : X → List Value) (n : Nat) (w : World) (lo hi : Nat) (v : Value) (L : List X) : Prop := ∃ g cap, v = .slice (some ⟨g, 0, none⟩) L.length cap ∧ FR f n w lo hi g cap L
theorem FRow.below {X : Type} {f : X → List Value} {n : Nat} {w w' : World} {lo hi : Nat} {v : Value} {L : List X} (h : FRow f n w lo hi v L) (hb : Below w.heap.size w w') : FRow f n w' lo hi v L := by
  obtain ⟨g, cap, h1, h2⟩ := h
  exact ⟨g, cap, h1, h2.below hb⟩
theorem FRow.touch {X : Type} {f : X → List Value} {n : Nat} {w w' : World} {lo hi lo' hi' : Nat} {v : Value} {L : List X} (h : FRow f n w lo hi v L) (ht : Touch lo' hi' w w') (ho : hi ≤ lo' ∨ hi' ≤ lo) : FRow f n w' lo hi v L := by
  obtain ⟨g, cap, h1, h2⟩ := h
  exact ⟨g, cap, h1, h2.touch ht (by have := h2.bs; have := h2.up; omega)⟩
theorem FRow.wide {X : Type} {f : X → List Value} {n : Nat} {w : World} {lo hi lo' hi' : Nat} {v : Value} {L : List X} (h : FRow f n w lo hi v L) (h1 : lo' ≤ lo) (h2 : hi ≤ hi') : FRow f n w lo' hi' v L := by
  obtain ⟨g, cap, e1, e2⟩ := h
  exact ⟨g, cap, e1, e2.wide h1 h2⟩
theorem FR.get {X : Type} {f : X → List Value} {n : Nat} (hf : ∀ x, (f x).length = n) {w : World} {lo hi g cap : Nat} {L : List X} (h : FR f n w lo hi g cap L) {i t : Nat} (hi' : i < L.length) (ht : t < n) {v : Value} (hv : (f L[i])[t]? = some v) : w.cell? ⟨g, i * n + t, none⟩ = some v := by
  have := h.rg (i * n + t) v (by rw [flatV_get hf L i t hi' ht]; exact hv)
  rwa [Nat.zero_add] at this
theorem fr_new {X : Type} (f : X → List Value) (n : Nat) (Y : World) (cs : Array Value) (t : TypeId) (cap : Nat) (hs : cs.size = cap * n) (hm : cap ≤ maxLen) : FR f n (Y.alloc (.cells cs t)) Y.heap.size (Y.heap.size + 1) Y.heap.size cap [] :=
  ⟨Nat.le_refl _, Nat.lt_succ_self _, by simp, Nat.zero_le _, hm, fun j hj => by rw [(Box.new Y cs t _ rfl).cell j, Array.getElem?_eq_getElem (by omega)]; rfl, fun j => (Box.new Y cs t _ rfl).free j, fun j u hu => by simp [flatV] at hu⟩
theorem owns_fr {X : Type} {f : X → List Value} {n : Nat} (hf : ∀ x, (f x).length = n) {w : World} {base : Nat} {e : TypeId} {v : Value} {m : Nat} {L : List X} (h : w.ownsRow base e n v m (flatV f L)) (hm : m = L.length) (h0 : 0 < m) : FRow f n w base w.heap.size v L := by
  subst hm
  rcases h.2 with ⟨_, h'⟩ | ⟨g, cap, cur, hv, hb, hg, hnc, hcm, hcs, htk⟩
  · omega
  · have hlt := (Array.getElem?_eq_some_iff.1 hg).1
    refine ⟨g, cap, hv, hb, hlt, hlt, hnc, hcm, fun j hj => by rw [cell_heap hg, Array.getElem?_eq_getElem (by omega)]; rfl, fun j => frozen_none hg j, fun j u hu => ?_⟩
    rw [Nat.zero_add, cell_heap hg]
    have hj : j < L.length * n := by
      have := (List.getElem?_eq_some_iff.1 hu).1
      rwa [flatV_len hf] at this
    rw [← htk, List.getElem?_take_of_lt hj] at hu
    simpa using hu
theorem FR.put {X : Type} {f : X → List Value} {n : Nat} (hf : ∀ x, (f x).length = n) {w : World} {lo hi g cap : Nat} {L M : List X} (h : FR f n w lo hi g cap L) (hc : L.length + M.length ≤ cap) :
    FR f n (w.setCells g (0 + L.length * n) (flatV f M)) lo hi g cap (L ++ M) := by
  have hlm : (flatV f M).length = M.length * n := flatV_len hf M
  have hll : (flatV f L).length = L.length * n := flatV_len hf L
  have hcn : L.length * n + M.length * n ≤ cap * n := by rw [← Nat.add_mul]; exact Nat.mul_le_mul_right _ hc
  refine ⟨h.bs, h.up, by rw [size_sets]; exact h.lt, by rw [List.length_append]; exact hc, h.mx, fun j hj => World.isSome_setCells _ _ _ _ _ (h.th j hj), fun j => by rw [World.frozen?_setCells]; exact h.fz j, ?_⟩
  rw [flatV_app]
  intro j u hu
  by_cases hj : j < L.length * n
  · rw [List.getElem?_append_left (by omega)] at hu
    exact World.rangeAt_setCells_apart h.rg g (0 + L.length * n) (flatV f M) (Or.inr (Or.inl (by omega))) j u hu
  · rw [List.getElem?_append_right (by omega), hll] at hu
    have := World.rangeAt_setCells_same w g (0 + L.length * n) (flatV f M) (fun j hj' => ⟨h.th _ (by omega), h.fz _⟩) (j - L.length * n) u hu
    rwa [show 0 + L.length * n + (j - L.length * n) = 0 + j by omega] at this
theorem Touch.sets {lo hi b : Nat} (hb : lo ≤ b ∧ b < hi) : ∀ (vs : List Value) (o : Nat) (w : World), Touch lo hi w (w.setCells b o vs)
  | [], _, _ => Touch.refl _ _ _
  | v :: vs, o, w => (Touch.setCell lo hi w ⟨b, o, none⟩ v hb).trans (Touch.sets hb vs (o + 1) _)
/-- append to such a row, whatever is put behind it; where it moves, it moves behind all that is there -/
theorem run_fr {X : Type} {f : X → List Value} {n bytes : Nat} (hf : ∀ x, (f x).length = n) (hn : 0 < n) {t e : TypeId} {z : Value} (ht : Tryz.prog.underlying t = some (.slice e)) (hi : (Tryz.prog.info? e).map (fun i => (i.zero, i.size, i.bytes)) = some (some z, n, bytes)) (hzs : z.cells.size = n)
    {w : World} {lo hi' : Nat} {v : Value} {L M : List X} (ty : TypeId) (h : FRow f n w lo hi' v L) (ao : Option Addr) (m c : Nat) (hM : m = M.length) (hm : ao = none → m = 0)
    (hsrc : ∀ ad, ao = some ad → ∀ j u, (flatV f M)[j]? = some u → w.cell? (ad.add j) = some u) (h1 : ∀ u ∈ flatV f M, u.oneCell' = true) (hb : L.length + M.length ≤ 10000000) (hby : bytes ≤ 1000000) :
    ∃ v' w', (Builtin.append_ #[t, t] ty #[v, .slice ao m c]).run Tryz.prog w = .ok v' w' ∧ Touch lo hi' w w' ∧ (FRow f n w' lo hi' v' (L ++ M) ∨ FRow f n w' w.heap.size w'.heap.size v' (L ++ M)) := by
  have hex : ∃ i, Tryz.prog.info? e = some i ∧ i.zero = some z ∧ i.size = n ∧ i.bytes = bytes := by
    cases hh : Tryz.prog.info? e with
    | none => rw [hh] at hi; simp at hi
    | some i =>
      rw [hh] at hi
      simp only [Option.map_some, Option.some.injEq, Prod.mk.injEq] at hi
      exact ⟨i, rfl, hi.1, hi.2.1, hi.2.2⟩
  obtain ⟨i0, hi0, hz0, hz1, hz2⟩ := hex
  obtain ⟨g, cap, rfl, hr⟩ := h
  subst hM
  have hlm : (flatV f M).length = M.length * n := flatV_len hf M
  cases ao with
  | none =>
    have h0 := hm rfl
    obtain rfl : M = [] := List.eq_nil_of_length_eq_zero h0
    refine ⟨.slice (some ⟨g, 0, none⟩) L.length cap, w, ?_, Touch.refl _ _ _, Or.inl ⟨g, cap, by simp, by simpa using hr⟩⟩
    simp [Builtin.append_, run_underlying ht, sizeOf, typeInfo, hi0, Builtin.lenOf, Builtin.firstCells, storeCells, hr.le]
  | some ad =>
    by_cases hc : L.length + M.length ≤ cap
    · have hcn : L.length * n + M.length * n ≤ cap * n := by rw [← Nat.add_mul]; exact Nat.mul_le_mul_right _ hc
      refine ⟨.slice (some ⟨g, 0, none⟩) (L.length + M.length) cap, w.setCells g (0 + L.length * n) (flatV f M), ?_, Touch.sets ⟨hr.bs, hr.up⟩ _ _ _, Or.inl ⟨g, cap, ?_, hr.put hf hc⟩⟩
      · have := run_append_room_cells (P := Tryz.prog) w t ty e i0 ht hi0 g 0 L.length cap ad M.length c (flatV f M) (by rw [hz1]; exact hlm) (hsrc ad rfl) h1 hc
          (fun j hj => hr.th _ (by rw [hz1]; omega)) (fun j hj => hr.fz _)
        rw [hz1] at this
        exact this
      · rw [List.length_append]
    · obtain ⟨v', w', h2, h3, h4⟩ := run_append_arg_grows (P := Tryz.prog) w t ty e i0 z n bytes ht hi0 hz0 hz1 hz2 hzs hn ⟨g, 0, none⟩ L.length cap (flatV f L) (flatV_len hf L)
        (fun j u hj => by rw [Addr.add_lit]; exact hr.rg j u hj) ad M.length c (flatV f M) hlm (hsrc ad rfl) (by omega) (by unfold maxLen; omega) (by
          have := Nat.mul_le_mul hb hby
          omega)
      exact ⟨v', w', h2, Touch.below ⟨h4.os, h4.tape, h4.output, h4.size, fun k hk => h4.block k hk (by simp)⟩, Or.inr (owns_fr hf (by rw [flatV_app]; exact h3) (by rw [List.length_append]) (by omega))⟩
theorem wpList_fr {X : Type} {f : X → List Value} {n bytes : Nat} (hf : ∀ x, (f x).length = n) (hn : 0 < n) {t e : TypeId} {z : Value} (ht : Tryz.prog.underlying t = some (.slice e)) (hi : (Tryz.prog.info? e).map (fun i => (i.zero, i.size, i.bytes)) = some (some z, n, bytes)) (hzs : z.cells.size = n)
    {w : World} {lo hi' : Nat} {v : Value} {L : List X} (M : List X) {ops : Array Oper} {rest : List Oper} {o : Oper} {a : Act} {Q : Exit → Act → World → Prop} (hgd : o.guard = none) (s x : Operand)
    (ho : o.op = .call { callee := .builtin .append, args := #[s, x], argTypes := #[t, t] }) (hs : a.eval s = v) (h : FRow f n w lo hi' v L) (ao : Option Addr) (m c : Nat) (hx : a.eval x = .slice ao m c) (hM : m = M.length) (hm : ao = none → m = 0)
    (hsrc : ∀ ad, ao = some ad → ∀ j u, (flatV f M)[j]? = some u → w.cell? (ad.add j) = some u) (h1 : ∀ u ∈ flatV f M, u.oneCell' = true) (hb : L.length + M.length ≤ 10000000) (hby : bytes ≤ 1000000)
    (K : ∀ v' w', Touch lo hi' w w' → (FRow f n w' lo hi' v' (L ++ M) ∨ FRow f n w' w.heap.size w'.heap.size v' (L ++ M)) → wpList Tryz.prog ops Q rest (a.put o.dst v') w') : wpList Tryz.prog ops Q (o :: rest) a w := by
  obtain ⟨v', w', h2, h3, h4⟩ := run_fr hf hn ht hi hzs o.type h ao m c hM hm hsrc h1 hb hby
  exact wpList_append_run hgd s x _ ho hs hx h2 (K v' w' h3 h4)
end Go.Proofs.YtdeammfdkaomlaaGreat
