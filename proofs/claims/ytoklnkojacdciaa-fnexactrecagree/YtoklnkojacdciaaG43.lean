import Derived.Test.YtoklnkojacdciaaG42
namespace Go.Proofs.Ytoklnkojacdciaa
open Go.RowKit Go.Deep

/-! rows that grow in a block of the call's own: things by their cells (f x, n of them), in a block of [lo, hi) -/
structure FR {X : Type} (f : X → List Value) (n : Nat) (w : World) (lo hi g cap : Nat) (L : List X) : Prop where
  bs : lo ≤ g
  up : g < hi
  lt : g < w.heap.size
  le : L.length ≤ cap
  mx : cap ≤ maxLen
  th : ∀ j, j < cap * n → (w.cell? ⟨g, j, none⟩).isSome = true
  fz : ∀ j, w.frozen? ⟨g, j, none⟩ = false
  rg : w.rangeAt g 0 (flatV f L)
theorem FR.below {X : Type} {f : X → List Value} {n : Nat} {w w' : World} {lo hi g cap : Nat} {L : List X} (h : FR f n w lo hi g cap L) (hb : Below w.heap.size w w') : FR f n w' lo hi g cap L :=
  ⟨h.bs, h.up, Nat.lt_of_lt_of_le h.lt hb.size, h.le, h.mx, fun j hj => by rw [hb.cell (p := ⟨g, j, none⟩) h.lt]; exact h.th j hj, fun j => by rw [hb.frozen (p := ⟨g, j, none⟩) h.lt]; exact h.fz j, rng_below h.rg hb h.lt⟩
theorem FR.touch {X : Type} {f : X → List Value} {n : Nat} {w w' : World} {lo hi g cap lo' hi' : Nat} {L : List X} (h : FR f n w lo hi g cap L) (ht : Touch lo' hi' w w') (ho : g < lo' ∨ hi' ≤ g) : FR f n w' lo hi g cap L :=
  ⟨h.bs, h.up, Nat.lt_of_lt_of_le h.lt ht.size, h.le, h.mx, fun j hj => by rw [ht.cell (p := ⟨g, j, none⟩) h.lt ho]; exact h.th j hj, fun j => by rw [ht.frozen (p := ⟨g, j, none⟩) h.lt ho]; exact h.fz j, fun j v hv => by rw [ht.cell (p := ⟨g, 0 + j, none⟩) h.lt ho]; exact h.rg j v hv⟩
theorem FR.wide {X : Type} {f : X → List Value} {n : Nat} {w : World} {lo hi g cap lo' hi' : Nat} {L : List X} (h : FR f n w lo hi g cap L) (h1 : lo' ≤ lo) (h2 : hi ≤ hi') : FR f n w lo' hi' g cap L :=
  ⟨Nat.le_trans h1 h.bs, Nat.lt_of_lt_of_le h.up h2, h.lt, h.le, h.mx, h.th, h.fz, h.rg⟩
def FRow {X : Type} (f : X → List Value) (n : Nat) (w : World) (lo hi : Nat) (v : Value) (L : List X) : Prop := ∃ g cap, v = .slice (some ⟨g, 0, none⟩) L.length cap ∧ FR f n w lo hi g cap L
theorem FRow.below {X : Type} {f : X → List Value} {n : Nat} {w w' : World} {lo hi : Nat} {v : Value} {L : List X} (h : FRow f n w lo hi v L) (hb : Below w.heap.size w w') : FRow f n w' lo hi v L := by
  obtain ⟨g, cap, h1, h2⟩ := h
  exact ⟨g, cap, h1, h2.below hb⟩
theorem FRow.touch {X : Type} {f : X → List Value} {n : Nat} {w w' : World} {lo hi lo' hi' : Nat} {v : Value} {L : List X} (h : FRow f n w lo hi v L) (ht : Touch lo' hi' w w') (ho : hi ≤ lo' ∨ hi' ≤ lo) : FRow f n w' lo hi v L := by
  obtain ⟨g, cap, h1, h2⟩ := h
  exact ⟨g, cap, h1, h2.touch ht (by have := h2.bs; have := h2.up; omega)⟩
theorem FRow.wide {X : Type} {f : X → List Value} {n : Nat} {w : World} {lo hi lo' hi' : Nat} {v : Value} {L : List X} (h : FRow f n w lo hi v L) (h1 : lo' ≤ lo) (h2 : hi ≤ hi') : FRow f n w lo' hi' v L := by
  obtain ⟨g, cap, e1, e2⟩ := h
  exact ⟨g, cap, e1, e2.wide h1 h2⟩
theorem FR.get {X : Type} {f : X → List Value} {n : Nat} (hf : ∀ x, (f x).length = n) {w : World} {lo hi g cap : Nat} {L : List X} (h : FR f n w lo hi g cap L) {i t : Nat} (hi' : i < L.length) (ht : t < n) {v : Value} (hv : (f L[i])[t]? = some v) : w.cell? ⟨g, i * n + t, none⟩ = some v := by
  have := h.rg (i * n + t) v (by rw [flatV_get hf L i t hi' ht]; exact hv)
  rwa [Nat.zero_add] at this
theorem fr_new {X : Type} (f : X → List Value) (n : Nat) (Y : World) (cs : Array Value) (t : TypeId) (cap : Nat) (hs : cs.size = cap * n) (hm : cap ≤ maxLen) : FR f n (Y.alloc (.cells cs t)) Y.heap.size (Y.heap.size + 1) Y.heap.size cap [] :=
  ⟨Nat.le_refl _, Nat.lt_succ_self _, by simp, Nat.zero_le _, hm, fun j hj => by rw [(Box.new Y cs t _ rfl).cell j, Array.getElem?_eq_getElem (by omega)]; rfl, fun j => (Box.new Y cs t _ rfl).free j, fun j u hu => by simp [flatV] at hu⟩
theorem owns_fr {X : Type} {f : X → List Value} {n : Nat} (hf : ∀ x, (f x).length = n) {w : World} {base : Nat} {e : TypeId} {v : Value} {m : Nat} {L : List X} (h : w.ownsRow base e n v m (flatV f L)) (hm : m = L.length) (h0 : 0 < m) : FRow f n w base w.heap.size v L := by
  subst hm
  rcases h.2 with ⟨_, h'⟩ | ⟨g, cap, cur, hv, hb, hg, hnc, hcm, hcs, htk⟩
  · omega
  · have hlt := (Array.getElem?_eq_some_iff.1 hg).1
    refine ⟨g, cap, hv, hb, hlt, hlt, hnc, hcm, fun j hj => by rw [cell_heap hg, Array.getElem?_eq_getElem (by omega)]; rfl, fun j => frozen_none hg j, fun j u hu => ?_⟩
    rw [Nat.zero_add, cell_heap hg]
    have hj : j < L.length * n := by
      have := (List.getElem?_eq_some_iff.1 hu).1
      rwa [flatV_len hf] at this
    rw [← htk, List.getElem?_take_of_lt hj] at hu
    simpa using hu
theorem FR.put {X : Type} {f : X → List Value} {n : Nat} (hf : ∀ x, (f x).length = n) {w : World} {lo hi g cap : Nat} {L M : List X} (h : FR f n w lo hi g cap L) (hc : L.length + M.length ≤ cap) :
    FR f n (w.setCells g (0 + L.length * n) (flatV f M)) lo hi g cap (L ++ M) := by
  have hlm : (flatV f M).length = M.length * n := flatV_len hf M
  have hll : (flatV f L).length = L.length * n := flatV_len hf L
  have hcn : L.length * n + M.length * n ≤ cap * n := by rw [← Nat.add_mul]; exact Nat.mul_le_mul_right _ hc
  refine ⟨h.bs, h.up, by rw [size_sets]; exact h.lt, by rw [List.length_append]; exact hc, h.mx, fun j hj => World.isSome_setCells _ _ _ _ _ (h.th j hj), fun j => by rw [World.frozen?_setCells]; exact h.fz j, ?_⟩
  rw [flatV_app]
  intro j u hu
  by_cases hj : j < L.length * n
  · rw [List.getElem?_append_left (by omega)] at hu
    exact World.rangeAt_setCells_apart h.rg g (0 + L.length * n) (flatV f M) (Or.inr (Or.inl (by omega))) j u hu
  · rw [List.getElem?_append_right (by omega), hll] at hu
    have := World.rangeAt_setCells_same w g (0 + L.length * n) (flatV f M) (fun j hj' => ⟨h.th _ (by omega), h.fz _⟩) (j - L.length * n) u hu
    rwa [show 0 + L.length * n + (j - L.length * n) = 0 + j by omega] at this
theorem Touch.sets {lo hi b : Nat} (hb : lo ≤ b ∧ b < hi) : ∀ (vs : List Value) (o : Nat) (w : World), Touch lo hi w (w.setCells b o vs)
  | [], _, _ => Touch.refl _ _ _
  | v :: vs, o, w => (Touch.setCell lo hi w ⟨b, o, none⟩ v hb).trans (Touch.sets hb vs (o + 1) _)
/-- append to such a row, whatever is put behind it; where it moves, it moves behind all that is there -/
theorem run_fr {X : Type} {f : X → List Value} {n bytes : Nat} (hf : ∀ x, (f x).length = n) (hn : 0 < n) {t e : TypeId} {z : Value} (ht : Try.prog.underlying t = some (.slice e)) (hi : (Try.prog.info? e).map (fun i => (i.zero, i.size, i.bytes)) = some (some z, n, bytes)) (hzs : z.cells.size = n)
    {w : World} {lo hi' : Nat} {v : Value} {L M : List X} (ty : TypeId) (h : FRow f n w lo hi' v L) (ao : Option Addr) (m c : Nat) (hM : m = M.length) (hm : ao = none → m = 0)
    (hsrc : ∀ ad, ao = some ad → ∀ j u, (flatV f M)[j]? = some u → w.cell? (ad.add j) = some u) (h1 : ∀ u ∈ flatV f M, u.oneCell' = true) (hb : L.length + M.length ≤ 10000000) (hby : bytes ≤ 1000000) :
    ∃ v' w', (Builtin.append_ #[t, t] ty #[v, .slice ao m c]).run Try.prog w = .ok v' w' ∧ Touch lo hi' w w' ∧ (FRow f n w' lo hi' v' (L ++ M) ∨ FRow f n w' w.heap.size w'.heap.size v' (L ++ M)) := by
  have hex : ∃ i, Try.prog.info? e = some i ∧ i.zero = some z ∧ i.size = n ∧ i.bytes = bytes := by
    cases hh : Try.prog.info? e with
    | none => rw [hh] at hi; simp at hi
    | some i =>
      rw [hh] at hi
      simp only [Option.map_some, Option.some.injEq, Prod.mk.injEq] at hi
      exact ⟨i, rfl, hi.1, hi.2.1, hi.2.2⟩
  obtain ⟨i0, hi0, hz0, hz1, hz2⟩ := hex
  obtain ⟨g, cap, rfl, hr⟩ := h
  subst hM
  have hlm : (flatV f M).length = M.length * n := flatV_len hf M
  cases ao with
  | none =>
    have h0 := hm rfl
    obtain rfl : M = [] := List.eq_nil_of_length_eq_zero h0
    refine ⟨.slice (some ⟨g, 0, none⟩) L.length cap, w, ?_, Touch.refl _ _ _, Or.inl ⟨g, cap, by simp, by simpa using hr⟩⟩
    simp [Builtin.append_, run_underlying ht, sizeOf, typeInfo, hi0, Builtin.lenOf, Builtin.firstCells, storeCells, hr.le]
  | some ad =>
    by_cases hc : L.length + M.length ≤ cap
    · have hcn : L.length * n + M.length * n ≤ cap * n := by rw [← Nat.add_mul]; exact Nat.mul_le_mul_right _ hc
      refine ⟨.slice (some ⟨g, 0, none⟩) (L.length + M.length) cap, w.setCells g (0 + L.length * n) (flatV f M), ?_, Touch.sets ⟨hr.bs, hr.up⟩ _ _ _, Or.inl ⟨g, cap, ?_, hr.put hf hc⟩⟩
      · have := run_append_room_cells (P := Try.prog) w t ty e i0 ht hi0 g 0 L.length cap ad M.length c (flatV f M) (by rw [hz1]; exact hlm) (hsrc ad rfl) h1 hc
          (fun j hj => hr.th _ (by rw [hz1]; omega)) (fun j hj => hr.fz _)
        rw [hz1] at this
        exact this
      · rw [List.length_append]
    · obtain ⟨v', w', h2, h3, h4⟩ := run_append_arg_grows (P := Try.prog) w t ty e i0 z n bytes ht hi0 hz0 hz1 hz2 hzs hn ⟨g, 0, none⟩ L.length cap (flatV f L) (flatV_len hf L)
        (fun j u hj => by rw [Addr.add_lit]; exact hr.rg j u hj) ad M.length c (flatV f M) hlm (hsrc ad rfl) (by omega) (by unfold maxLen; omega) (by
          have := Nat.mul_le_mul hb hby
          omega)
      exact ⟨v', w', h2, Touch.below ⟨h4.os, h4.tape, h4.output, h4.size, fun k hk => h4.block k hk (by simp)⟩, Or.inr (owns_fr hf (by rw [flatV_app]; exact h3) (by rw [List.length_append]) (by omega))⟩
theorem wpList_fr {X : Type} {f : X → List Value} {n bytes : Nat} (hf : ∀ x, (f x).length = n) (hn : 0 < n) {t e : TypeId} {z : Value} (ht : Try.prog.underlying t = some (.slice e)) (hi : (Try.prog.info? e).map (fun i => (i.zero, i.size, i.bytes)) = some (some z, n, bytes)) (hzs : z.cells.size = n)
    {w : World} {lo hi' : Nat} {v : Value} {L : List X} (M : List X) {ops : Array Oper} {rest : List Oper} {o : Oper} {a : Act} {Q : Exit → Act → World → Prop} (hgd : o.guard = none) (s x : Operand)
    (ho : o.op = .call { callee := .builtin .append, args := #[s, x], argTypes := #[t, t] }) (hs : a.eval s = v) (h : FRow f n w lo hi' v L) (ao : Option Addr) (m c : Nat) (hx : a.eval x = .slice ao m c) (hM : m = M.length) (hm : ao = none → m = 0)
    (hsrc : ∀ ad, ao = some ad → ∀ j u, (flatV f M)[j]? = some u → w.cell? (ad.add j) = some u) (h1 : ∀ u ∈ flatV f M, u.oneCell' = true) (hb : L.length + M.length ≤ 10000000) (hby : bytes ≤ 1000000)
    (K : ∀ v' w', Touch lo hi' w w' → (FRow f n w' lo hi' v' (L ++ M) ∨ FRow f n w' w.heap.size w'.heap.size v' (L ++ M)) → wpList Try.prog ops Q rest (a.put o.dst v') w') : wpList Try.prog ops Q (o :: rest) a w := by
  obtain ⟨v', w', h2, h3, h4⟩ := run_fr hf hn ht hi hzs o.type h ao m c hM hm hsrc h1 hb hby
  exact wpList_append_run hgd s x _ ho hs hx h2 (K v' w' h3 h4)
end Go.Proofs.Ytoklnkojacdciaa
namespace Go.Proofs.Ytoklnkojacdciaa
open Go.RowKit Go.Deep

def RaSize (x : Ra) : Prop := x = x
structure RaCells (w : World) (b o : Nat) (x : Ra) (vv0 : Value) : Prop where
  c0 : w.cell? ⟨b, o, none⟩ = some (.int .i64 x.ix)
  c1 : w.cell? ⟨b, o + 1, none⟩ = some vv0
theorem RaCells.below {w w' : World} {b o : Nat} {x : Ra} {vv0 : Value} (h : RaCells w b o x vv0) {m : Nat} (hb : Below m w w') (hlt : b < m) : RaCells w' b o x vv0 := by
  have e : ∀ o, w'.cell? ⟨b, o, none⟩ = w.cell? ⟨b, o, none⟩ := fun o => hb.cell (p := ⟨b, o, none⟩) hlt
  exact ⟨by rw [e]; exact h.c0, by rw [e]; exact h.c1⟩
theorem RaCells.rng {w : World} {b o : Nat} {x : Ra} {a : Option Addr} {k : Nat} (h : RaCells w b o x (.slice a x.fr.length k)) : w.rangeAt b o (raL x a k) := fun j v hv => by
  match j, hv with
  | 0, hv => cases hv; exact h.c0
  | 1, hv => cases hv; exact h.c1
def RaOne (b o c0 c1 : Nat) (w : World) (x : Ra) : Prop := RaSize x ∧ ∃ (vv0 : Value), c0 ≤ c1 ∧ RaCells w b o x vv0 ∧ RisOwn c0 c1 w vv0 x.fr
theorem RaOne.near {b o c0 c1 o1 d0 d1 : Nat} {w w' : World} {x : Ra} (h : RaOne b o c0 c1 w x) (hn : Near b o1 2 d0 d1 w w') (ho : o + 2 ≤ o1 ∨ o1 + 2 ≤ o) (hi : c1 ≤ d0 ∨ d1 ≤ c0) (hb : b < c0 ∨ c1 ≤ b) : RaOne b o c0 c1 w' x := by
  obtain ⟨hs, vv0, q0, hc, l0⟩ := h
  obtain ⟨h0, h1⟩ := hc
  have e : ∀ t, t < 2 → w'.cell? ⟨b, o + t, none⟩ = w.cell? ⟨b, o + t, none⟩ := fun t ht => hn.cell _ (by omega)
  have e0 : w'.cell? ⟨b, o, none⟩ = w.cell? ⟨b, o, none⟩ := hn.cell _ (by omega)
  exact ⟨hs, vv0, q0, ⟨e0.trans h0, (e 1 (by omega)).trans h1⟩, l0.near hn (by omega) (by omega)⟩
theorem RaOne.touch {b o c0 c1 : Nat} {lo hi : Nat} {w w' : World} {x : Ra} (h : RaOne b o c0 c1 w x) (ht : Touch lo hi w w') (hlt : b < w.heap.size) (hb : b < lo ∨ hi ≤ b) (hi' : c1 ≤ lo ∨ hi ≤ c0) : RaOne b o c0 c1 w' x := by
  obtain ⟨hs, vv0, q0, hc, l0⟩ := h
  obtain ⟨h0, h1⟩ := hc
  exact ⟨hs, vv0, q0, ⟨(ht.cell (p := ⟨b, o, none⟩) hlt hb).trans h0, (ht.cell (p := ⟨b, o + 1, none⟩) hlt hb).trans h1⟩, l0.touch ht (by omega)⟩
theorem RaOne.below {b o c0 c1 : Nat}  {w w' : World} {x : Ra} (h : RaOne b o c0 c1 w x) (ht : Below w.heap.size w w') (hlt : b < w.heap.size) : RaOne b o c0 c1 w' x := by
  obtain ⟨hs, vv0, q0, hc, l0⟩ := h
  obtain ⟨h0, h1⟩ := hc
  exact ⟨hs, vv0, q0, ⟨(ht.cell (p := ⟨b, o, none⟩) hlt).trans h0, (ht.cell (p := ⟨b, o + 1, none⟩) hlt).trans h1⟩, l0.below ht⟩
structure RaRow (lo hi : Nat) (w : World) (b off n : Nat) (c : Nat → Nat × Nat) (X : Nat → Ra) : Prop where
  lt : b < w.heap.size
  low : lo ≤ b
  bh : b < hi
  seg : ∀ i, i < n → lo ≤ (c i).1 ∧ (c i).2 ≤ hi ∧ (b < (c i).1 ∨ (c i).2 ≤ b)
  ap : ∀ i j, i < n → j < n → i ≠ j → (c i).2 ≤ (c j).1 ∨ (c j).2 ≤ (c i).1
  frz : ∀ i, w.frozen? ⟨b, i, none⟩ = false
  row : ∀ i, i < n → RaOne b (off + i * 2) (c i).1 (c i).2 w (X i)
theorem RaRow.near {lo hi : Nat} {w w' : World} {b off n : Nat} {c : Nat → Nat × Nat} {X : Nat → Ra} (h : RaRow lo hi w b off n c X) {j : Nat} (hj : j < n) (hn : Near b (off + j * 2) 2 (c j).1 (c j).2 w w') {x : Ra} (hx : RaOne b (off + j * 2) (c j).1 (c j).2 w' x) : RaRow lo hi w' b off n c (fun i => if i = j then x else X i) := by
  refine ⟨Nat.lt_of_lt_of_le h.lt hn.size, h.low, h.bh, h.seg, h.ap, fun i => (hn.frz i).trans (h.frz i), fun i hi' => ?_⟩
  by_cases e : i = j
  · subst e; rw [if_pos rfl]; exact hx
  · rw [if_neg e]
    refine (h.row i hi').near hn (by omega) ?_ (h.seg i hi').2.2
    exact h.ap i j hi' hj e
theorem RaRow.touch {lo hi lo' hi' : Nat} {w w' : World} {b off n : Nat} {c : Nat → Nat × Nat} {X : Nat → Ra} (h : RaRow lo hi w b off n c X) (ht : Touch lo' hi' w w') (ho : hi ≤ lo' ∨ hi' ≤ lo) : RaRow lo hi w' b off n c X := by
  have h1 := h.low
  have h2 := h.bh
  refine ⟨Nat.lt_of_lt_of_le h.lt ht.size, h.low, h.bh, h.seg, h.ap, fun i => (ht.frozen (p := ⟨b, i, none⟩) h.lt (by simp only []; omega)).trans (h.frz i), fun i hi' => ?_⟩
  have h5 := h.seg i hi'
  exact (h.row i hi').touch ht h.lt (by omega) (by omega)
theorem RaRow.below {lo hi : Nat} {w w' : World} {b off n : Nat} {c : Nat → Nat × Nat} {X : Nat → Ra} (h : RaRow lo hi w b off n c X) (ht : Below w.heap.size w w') : RaRow lo hi w' b off n c X :=
  ⟨Nat.lt_of_lt_of_le h.lt ht.size, h.low, h.bh, h.seg, h.ap, fun i => (ht.frozen (p := ⟨b, i, none⟩) h.lt).trans (h.frz i), fun i hi' => (h.row i hi').below ht h.lt⟩
theorem RaRow.to {lo hi : Nat} {w : World} {b off n : Nat} {c : Nat → Nat × Nat} {X Y : Nat → Ra} (h : RaRow lo hi w b off n c X) (e : ∀ i, i < n → X i = Y i) : RaRow lo hi w b off n c Y :=
  ⟨h.lt, h.low, h.bh, h.seg, h.ap, h.frz, fun i hi' => e i hi' ▸ h.row i hi'⟩
/-- a list of one's own -/
def RasOwn (lo hi : Nat) (w : World) (v : Value) (Xl : List Ra) : Prop :=
  (∃ (a : Option Addr) (cap : Nat), v = .slice a 0 cap ∧ Xl = []) ∨
  ∃ (b off cap : Nat) (c : Nat → Nat × Nat) (X : Nat → Ra), v = .slice (some ⟨b, off, none⟩) Xl.length cap ∧ Xl ≠ [] ∧ Xl.length ≤ maxLen ∧ Xl.length ≤ cap ∧ (∀ i (h : i < Xl.length), X i = Xl[i]) ∧ RaRow lo hi w b off Xl.length c X
theorem RasOwn.touch {lo hi lo' hi' : Nat} {w w' : World} {v : Value} {Xl : List Ra} (h : RasOwn lo hi w v Xl) (ht : Touch lo' hi' w w') (ho : hi ≤ lo' ∨ hi' ≤ lo) : RasOwn lo hi w' v Xl := by
  rcases h with h | ⟨b, off, cap, c, X, h1, h2, h3, h4, h5, h6⟩
  · exact Or.inl h
  · exact Or.inr ⟨b, off, cap, c, X, h1, h2, h3, h4, h5, h6.touch ht ho⟩
theorem RasOwn.below {lo hi : Nat} {w w' : World} {v : Value} {Xl : List Ra} (h : RasOwn lo hi w v Xl) (ht : Below w.heap.size w w') : RasOwn lo hi w' v Xl := by
  rcases h with h | ⟨b, off, cap, c, X, h1, h2, h3, h4, h5, h6⟩
  · exact Or.inl h
  · exact Or.inr ⟨b, off, cap, c, X, h1, h2, h3, h4, h5, h6.below ht⟩
theorem RasOwn.form {lo hi : Nat} {w : World} {v : Value} {Xl : List Ra} (h : RasOwn lo hi w v Xl) : ∃ a cap, v = .slice a Xl.length cap := by
  rcases h with ⟨a, cap, h, rfl⟩ | ⟨b, off, cap, c, X, h1, _⟩
  · exact ⟨a, cap, h⟩
  · exact ⟨_, cap, h1⟩
theorem RasOwn.at {lo hi : Nat} {w : World} {v : Value} {Xl : List Ra} (h : RasOwn lo hi w v Xl) : RasAt lo w v Xl := by
  rcases h with h | ⟨b, off, cap, c, X, h1, h2, h3, h4, h5, h6⟩
  · exact Or.inl h
  · refine Or.inr ⟨b, off, cap, h1, h2, h3, h6.lt, h6.low, h4, fun i hi' => ?_⟩
    have hr := h6.row i hi'
    have g0 := h6.seg i hi'
    rw [h5 i hi'] at hr
    obtain ⟨hs, vv0, q0, hc, l0⟩ := hr
    obtain ⟨a0, k0, rfl⟩ := l0.form
    exact ⟨_, hc.rng, a0, k0, rfl, ⟨l0.at.mono (by omega)⟩⟩
/-- marks from k on -/
def mkRa (k : Int) (x : Ra) : Ra := ⟨k, imarks (k + 1) x.fr.length⟩
def wdRa (x : Ra) : Nat := 1 + x.fr.length
def posRa (Xl : List Ra) (i : Nat) : Nat := ((Xl.take i).map wdRa).sum
def mkRas (k : Int) (Xl : List Ra) : List Ra := Xl.mapIdx (fun i x => mkRa (k + (posRa Xl i : Int)) x)
theorem mkRas_len (k : Int) (Xl : List Ra) : (mkRas k Xl).length = Xl.length := by unfold mkRas; simp
theorem mkRas_get (k : Int) (Xl : List Ra) (i : Nat) (h : i < (mkRas k Xl).length) (h' : i < Xl.length) : (mkRas k Xl)[i] = mkRa (k + (posRa Xl i : Int)) Xl[i] := List.getElem_mapIdx (f := fun i x => mkRa (k + (posRa Xl i : Int)) x) (h := h)
theorem posRa_succ {Xl : List Ra} {i : Nat} (h : i < Xl.length) : posRa Xl (i + 1) = posRa Xl i + wdRa Xl[i] := by
  unfold posRa
  rw [List.take_succ_eq_append_getElem h, List.map_append, List.sum_append]
  simp
theorem posRa_le {Xl : List Ra} (hn : RasSmall Xl) : ∀ {i : Nat}, i ≤ Xl.length → posRa Xl i ≤ i * 3000000 := by
  intro i
  induction i with
  | zero => intro _; simp [posRa]
  | succ i ih =>
    intro hi'
    have h1 := ih (by omega)
    rw [posRa_succ (by omega)]
    have h2 : wdRa Xl[i] ≤ 3000000 := by
      have hsm := hn.2 i (by omega)
      unfold RaSmall RisSmall at hsm
      unfold wdRa
      omega
    omega
theorem posRa_all {Xl : List Ra} {i : Nat} (h : Xl.length ≤ i) : posRa Xl i = posRa Xl Xl.length := by
  unfold posRa
  rw [List.take_of_length_le h, List.take_of_length_le (Nat.le_refl _)]
structure RaSt (wr : World) (b o c0 c1 : Nat) (vv0 : Value) (v : World) (y : Ra) : Prop where
  near : Near b o 2 c0 c1 wr v
  bc : b < c0 ∨ c1 ≤ b
  q0 : c0 ≤ c1
  cells : RaCells v b o y vv0
  l0 : RisOwn c0 c1 v vv0 y.fr
  frz : ∀ i, v.frozen? ⟨b, i, none⟩ = false
  lt : b < v.heap.size
theorem RaSt.below {wr : World} {b o c0 c1 : Nat} {vv0 : Value} {v v' : World} {y : Ra} (h : RaSt wr b o c0 c1 vv0 v y) (hb : Below v.heap.size v v') : RaSt wr b o c0 c1 vv0 v' y :=
  ⟨h.near.trans (Near.below hb h.lt), h.bc, h.q0, h.cells.below hb h.lt, h.l0.below hb, fun i => (hb.frozen (p := ⟨b, i, none⟩) h.lt).trans (h.frz i), Nat.lt_of_lt_of_le h.lt hb.size⟩
theorem RaSt.s0 {wr : World} {b o c0 c1 : Nat} {vv0 : Value} {v : World} {y : Ra} (h : RaSt wr b o c0 c1 vv0 v y) (u : Int) : RaSt wr b o c0 c1 vv0 (v.setCell ⟨b, o, none⟩ (.int .i64 u)) { y with ix := u } := by
  obtain ⟨h0, h1⟩ := h.cells
  have ht : Touch b (b + 1) v (v.setCell ⟨b, o, none⟩ (.int .i64 u)) := Touch.setCell _ _ _ _ _ ⟨Nat.le_refl _, by simp only []; omega⟩
  have hbc := h.bc
  have hq0 := h.q0
  exact ⟨h.near.trans (Near.set _ _ _ _ _ _ _ _ (by omega) (by omega)), h.bc, h.q0, ⟨World.cell?_setCell_same' _ _ _ (by rw [h0]; rfl), (cne (by omega)).trans h1⟩, h.l0.touch ht (by omega), fun i => by rw [World.frozen?_setCell]; exact h.frz i, by simpa [World.setCell] using h.lt⟩
theorem RaSt.m0' {wr : World} {b o c0 c1 : Nat} {vv0 : Value} {v v' : World} {y : Ra} (h : RaSt wr b o c0 c1 vv0 v y) (ht : Touch c0 c1 v v') {L : List Int} (hl : RisOwn c0 c1 v' vv0 L) : RaSt wr b o c0 c1 vv0 v' { y with fr := L } := by
  obtain ⟨h0, h1⟩ := h.cells
  have hbc := h.bc
  have hq0 := h.q0
  have hlt := h.lt
  have e : ∀ i, v'.cell? ⟨b, i, none⟩ = v.cell? ⟨b, i, none⟩ := fun i => ht.cell (p := ⟨b, i, none⟩) h.lt (by simp only []; omega)
  exact ⟨h.near.trans (Near.touch ht h.lt (by omega) (by omega) (by omega)), h.bc, h.q0, ⟨(e _).trans h0, (e _).trans h1⟩, hl, fun i => (ht.frozen (p := ⟨b, i, none⟩) h.lt (by simp only []; omega)).trans (h.frz i), Nat.lt_of_lt_of_le h.lt ht.size⟩
end Go.Proofs.Ytoklnkojacdciaa
