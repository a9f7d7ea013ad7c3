import Derived.Test.YtoklnkojacdciaaG05
import Derived.Test.YtoklnkojacdciaaG44
namespace Go.Proofs.Ytoklnkojacdciaa
open Go.RowKit Go.Deep

structure RmSize (x : Rm) : Prop where
  s0 : x.tx.size ≤ maxLen
structure RmCells (w : World) (b o : Nat) (x : Rm) (vv0 : Value) : Prop where
  c0 : w.cell? ⟨b, o, none⟩ = some (.int .i64 x.kd)
  c1 : w.cell? ⟨b, o + 1, none⟩ = some (.int .i64 x.fr)
  c2 : w.cell? ⟨b, o + 2, none⟩ = some (.int .i64 x.tt)
  c3 : w.cell? ⟨b, o + 3, none⟩ = some (.int .i64 x.ba)
  c4 : w.cell? ⟨b, o + 4, none⟩ = some (.int .i64 x.ix)
  c5 : w.cell? ⟨b, o + 5, none⟩ = some (.int .i64 x.kn)
  c6 : w.cell? ⟨b, o + 6, none⟩ = some (.string x.tx)
  c7 : w.cell? ⟨b, o + 7, none⟩ = some vv0
theorem RmCells.below {w w' : World} {b o : Nat} {x : Rm} {vv0 : Value} (h : RmCells w b o x vv0) {m : Nat} (hb : Below m w w') (hlt : b < m) : RmCells w' b o x vv0 := by
  have e : ∀ o, w'.cell? ⟨b, o, none⟩ = w.cell? ⟨b, o, none⟩ := fun o => hb.cell (p := ⟨b, o, none⟩) hlt
  exact ⟨by rw [e]; exact h.c0, by rw [e]; exact h.c1, by rw [e]; exact h.c2, by rw [e]; exact h.c3, by rw [e]; exact h.c4, by rw [e]; exact h.c5, by rw [e]; exact h.c6, by rw [e]; exact h.c7⟩
theorem RmCells.rng {w : World} {b o : Nat} {x : Rm} {a : Option Addr} {k : Nat} (h : RmCells w b o x (.slice a x.sl.length k)) : w.rangeAt b o (rmL x a k) := fun j v hv => by
  match j, hv with
  | 0, hv => cases hv; exact h.c0
  | 1, hv => cases hv; exact h.c1
  | 2, hv => cases hv; exact h.c2
  | 3, hv => cases hv; exact h.c3
  | 4, hv => cases hv; exact h.c4
  | 5, hv => cases hv; exact h.c5
  | 6, hv => cases hv; exact h.c6
  | 7, hv => cases hv; exact h.c7
theorem RssOwn.near {b o n d0 d1 lo hi : Nat} {w w' : World} {v : Value} {Xl : List Rs} (h : RssOwn lo hi w v Xl) (hn : Near b o n d0 d1 w w') (hi' : hi ≤ d0 ∨ d1 ≤ lo) (hb : b < lo ∨ hi ≤ b) : RssOwn lo hi w' v Xl := by
  rcases h with h | ⟨b', off, cap, c, X, h1, h2, h3, h4, h5, h6⟩
  · exact Or.inl h
  · refine Or.inr ⟨b', off, cap, c, X, h1, h2, h3, h4, h5, ?_⟩
    have k1 := h6.low
    have k2 := h6.bh
    have hbk : w'.heap[b']? = w.heap[b']? := hn.block b' h6.lt (by omega) (by omega)
    have e : ∀ i, w'.cell? ⟨b', i, none⟩ = w.cell? ⟨b', i, none⟩ := fun i => World.cell?_of_block hbk
    refine ⟨Nat.lt_of_lt_of_le h6.lt hn.size, h6.low, h6.bc, h6.bh, h6.mono, h6.top, fun i => (World.frozen?_of_block hbk).trans (h6.frz i), fun i hi'' => ?_⟩
    obtain ⟨hs, hc⟩ := h6.row i hi''
    obtain ⟨q0, q1⟩ := hc
    exact ⟨hs, (e _).trans q0, (e _).trans q1⟩
theorem posRs_two (L : List Rs) : ∀ i, i ≤ L.length → posRs L i = 2 * i := by
  intro i
  induction i with
  | zero => intro _; simp [posRs]
  | succ i ih =>
    intro h
    rw [posRs_succ (by omega), ih (by omega)]
    unfold wdRs
    omega
theorem posRs_all2 (L : List Rs) : posRs L L.length = 2 * L.length := posRs_two L _ (Nat.le_refl _)
def RmOne (b o c0 c1 : Nat) (w : World) (x : Rm) : Prop := RmSize x ∧ ∃ (vv0 : Value), c0 ≤ c1 ∧ RmCells w b o x vv0 ∧ RssOwn c0 c1 w vv0 x.sl
theorem RmOne.near {b o c0 c1 o1 d0 d1 : Nat} {w w' : World} {x : Rm} (h : RmOne b o c0 c1 w x) (hn : Near b o1 8 d0 d1 w w') (ho : o + 8 ≤ o1 ∨ o1 + 8 ≤ o) (hi : c1 ≤ d0 ∨ d1 ≤ c0) (hb : b < c0 ∨ c1 ≤ b) : RmOne b o c0 c1 w' x := by
  obtain ⟨hs, vv0, q0, hc, l0⟩ := h
  obtain ⟨h0, h1, h2, h3, h4, h5, h6, h7⟩ := hc
  have e : ∀ t, t < 8 → w'.cell? ⟨b, o + t, none⟩ = w.cell? ⟨b, o + t, none⟩ := fun t ht => hn.cell _ (by omega)
  have e0 : w'.cell? ⟨b, o, none⟩ = w.cell? ⟨b, o, none⟩ := hn.cell _ (by omega)
  exact ⟨hs, vv0, q0, ⟨e0.trans h0, (e 1 (by omega)).trans h1, (e 2 (by omega)).trans h2, (e 3 (by omega)).trans h3, (e 4 (by omega)).trans h4, (e 5 (by omega)).trans h5, (e 6 (by omega)).trans h6, (e 7 (by omega)).trans h7⟩, l0.near hn (by omega) (by omega)⟩
theorem RmOne.touch {b o c0 c1 : Nat} {lo hi : Nat} {w w' : World} {x : Rm} (h : RmOne b o c0 c1 w x) (ht : Touch lo hi w w') (hlt : b < w.heap.size) (hb : b < lo ∨ hi ≤ b) (hi' : c1 ≤ lo ∨ hi ≤ c0) : RmOne b o c0 c1 w' x := by
  obtain ⟨hs, vv0, q0, hc, l0⟩ := h
  obtain ⟨h0, h1, h2, h3, h4, h5, h6, h7⟩ := hc
  exact ⟨hs, vv0, q0, ⟨(ht.cell (p := ⟨b, o, none⟩) hlt hb).trans h0, (ht.cell (p := ⟨b, o + 1, none⟩) hlt hb).trans h1, (ht.cell (p := ⟨b, o + 2, none⟩) hlt hb).trans h2, (ht.cell (p := ⟨b, o + 3, none⟩) hlt hb).trans h3, (ht.cell (p := ⟨b, o + 4, none⟩) hlt hb).trans h4, (ht.cell (p := ⟨b, o + 5, none⟩) hlt hb).trans h5, (ht.cell (p := ⟨b, o + 6, none⟩) hlt hb).trans h6, (ht.cell (p := ⟨b, o + 7, none⟩) hlt hb).trans h7⟩, l0.touch ht (by omega)⟩
theorem RmOne.below {b o c0 c1 : Nat}  {w w' : World} {x : Rm} (h : RmOne b o c0 c1 w x) (ht : Below w.heap.size w w') (hlt : b < w.heap.size) : RmOne b o c0 c1 w' x := by
  obtain ⟨hs, vv0, q0, hc, l0⟩ := h
  obtain ⟨h0, h1, h2, h3, h4, h5, h6, h7⟩ := hc
  exact ⟨hs, vv0, q0, ⟨(ht.cell (p := ⟨b, o, none⟩) hlt).trans h0, (ht.cell (p := ⟨b, o + 1, none⟩) hlt).trans h1, (ht.cell (p := ⟨b, o + 2, none⟩) hlt).trans h2, (ht.cell (p := ⟨b, o + 3, none⟩) hlt).trans h3, (ht.cell (p := ⟨b, o + 4, none⟩) hlt).trans h4, (ht.cell (p := ⟨b, o + 5, none⟩) hlt).trans h5, (ht.cell (p := ⟨b, o + 6, none⟩) hlt).trans h6, (ht.cell (p := ⟨b, o + 7, none⟩) hlt).trans h7⟩, l0.below ht⟩
structure RmRow (lo hi : Nat) (w : World) (b off n : Nat) (c : Nat → Nat × Nat) (X : Nat → Rm) : Prop where
  lt : b < w.heap.size
  low : lo ≤ b
  bh : b < hi
  seg : ∀ i, i < n → lo ≤ (c i).1 ∧ (c i).2 ≤ hi ∧ (b < (c i).1 ∨ (c i).2 ≤ b)
  ap : ∀ i j, i < n → j < n → i ≠ j → (c i).2 ≤ (c j).1 ∨ (c j).2 ≤ (c i).1
  frz : ∀ i, w.frozen? ⟨b, i, none⟩ = false
  row : ∀ i, i < n → RmOne b (off + i * 8) (c i).1 (c i).2 w (X i)
theorem RmRow.near {lo hi : Nat} {w w' : World} {b off n : Nat} {c : Nat → Nat × Nat} {X : Nat → Rm} (h : RmRow lo hi w b off n c X) {j : Nat} (hj : j < n) (hn : Near b (off + j * 8) 8 (c j).1 (c j).2 w w') {x : Rm} (hx : RmOne b (off + j * 8) (c j).1 (c j).2 w' x) : RmRow lo hi w' b off n c (fun i => if i = j then x else X i) := by
  refine ⟨Nat.lt_of_lt_of_le h.lt hn.size, h.low, h.bh, h.seg, h.ap, fun i => (hn.frz i).trans (h.frz i), fun i hi' => ?_⟩
  by_cases e : i = j
  · subst e; rw [if_pos rfl]; exact hx
  · rw [if_neg e]
    refine (h.row i hi').near hn (by omega) ?_ (h.seg i hi').2.2
    exact h.ap i j hi' hj e
theorem RmRow.touch {lo hi lo' hi' : Nat} {w w' : World} {b off n : Nat} {c : Nat → Nat × Nat} {X : Nat → Rm} (h : RmRow lo hi w b off n c X) (ht : Touch lo' hi' w w') (ho : hi ≤ lo' ∨ hi' ≤ lo) : RmRow lo hi w' b off n c X := by
  have h1 := h.low
  have h2 := h.bh
  refine ⟨Nat.lt_of_lt_of_le h.lt ht.size, h.low, h.bh, h.seg, h.ap, fun i => (ht.frozen (p := ⟨b, i, none⟩) h.lt (by simp only []; omega)).trans (h.frz i), fun i hi' => ?_⟩
  have h5 := h.seg i hi'
  exact (h.row i hi').touch ht h.lt (by omega) (by omega)
theorem RmRow.below {lo hi : Nat} {w w' : World} {b off n : Nat} {c : Nat → Nat × Nat} {X : Nat → Rm} (h : RmRow lo hi w b off n c X) (ht : Below w.heap.size w w') : RmRow lo hi w' b off n c X :=
  ⟨Nat.lt_of_lt_of_le h.lt ht.size, h.low, h.bh, h.seg, h.ap, fun i => (ht.frozen (p := ⟨b, i, none⟩) h.lt).trans (h.frz i), fun i hi' => (h.row i hi').below ht h.lt⟩
theorem RmRow.to {lo hi : Nat} {w : World} {b off n : Nat} {c : Nat → Nat × Nat} {X Y : Nat → Rm} (h : RmRow lo hi w b off n c X) (e : ∀ i, i < n → X i = Y i) : RmRow lo hi w b off n c Y :=
  ⟨h.lt, h.low, h.bh, h.seg, h.ap, h.frz, fun i hi' => e i hi' ▸ h.row i hi'⟩
/-- a list of one's own -/
def RmsOwn (lo hi : Nat) (w : World) (v : Value) (Xl : List Rm) : Prop :=
  (∃ (a : Option Addr) (cap : Nat), v = .slice a 0 cap ∧ Xl = []) ∨
  ∃ (b off cap : Nat) (c : Nat → Nat × Nat) (X : Nat → Rm), v = .slice (some ⟨b, off, none⟩) Xl.length cap ∧ Xl ≠ [] ∧ Xl.length ≤ maxLen ∧ Xl.length ≤ cap ∧ (∀ i (h : i < Xl.length), X i = Xl[i]) ∧ RmRow lo hi w b off Xl.length c X
theorem RmsOwn.touch {lo hi lo' hi' : Nat} {w w' : World} {v : Value} {Xl : List Rm} (h : RmsOwn lo hi w v Xl) (ht : Touch lo' hi' w w') (ho : hi ≤ lo' ∨ hi' ≤ lo) : RmsOwn lo hi w' v Xl := by
  rcases h with h | ⟨b, off, cap, c, X, h1, h2, h3, h4, h5, h6⟩
  · exact Or.inl h
  · exact Or.inr ⟨b, off, cap, c, X, h1, h2, h3, h4, h5, h6.touch ht ho⟩
theorem RmsOwn.below {lo hi : Nat} {w w' : World} {v : Value} {Xl : List Rm} (h : RmsOwn lo hi w v Xl) (ht : Below w.heap.size w w') : RmsOwn lo hi w' v Xl := by
  rcases h with h | ⟨b, off, cap, c, X, h1, h2, h3, h4, h5, h6⟩
  · exact Or.inl h
  · exact Or.inr ⟨b, off, cap, c, X, h1, h2, h3, h4, h5, h6.below ht⟩
theorem RmsOwn.form {lo hi : Nat} {w : World} {v : Value} {Xl : List Rm} (h : RmsOwn lo hi w v Xl) : ∃ a cap, v = .slice a Xl.length cap := by
  rcases h with ⟨a, cap, h, rfl⟩ | ⟨b, off, cap, c, X, h1, _⟩
  · exact ⟨a, cap, h⟩
  · exact ⟨_, cap, h1⟩
theorem RmsOwn.at {lo hi : Nat} {w : World} {v : Value} {Xl : List Rm} (h : RmsOwn lo hi w v Xl) : RmsAt lo w v Xl := by
  rcases h with h | ⟨b, off, cap, c, X, h1, h2, h3, h4, h5, h6⟩
  · exact Or.inl h
  · refine Or.inr ⟨b, off, cap, h1, h2, h3, h6.lt, h6.low, h4, fun i hi' => ?_⟩
    have hr := h6.row i hi'
    have g0 := h6.seg i hi'
    rw [h5 i hi'] at hr
    obtain ⟨hs, vv0, q0, hc, l0⟩ := hr
    obtain ⟨a0, k0, rfl⟩ := l0.form
    exact ⟨_, hc.rng, a0, k0, rfl, l0.at.mono (by omega), hs.s0⟩
/-- marks from k on -/
def mkRm (k : Int) (x : Rm) : Rm := ⟨k, k + 1, k + 1 + 1, k + 1 + 1 + 1, k + 1 + 1 + 1 + 1, k + 1 + 1 + 1 + 1 + 1, mtB (k + 1 + 1 + 1 + 1 + 1 + 1), mkRss (k + 1 + 1 + 1 + 1 + 1 + 1 + 1) x.sl⟩
def wdRm (x : Rm) : Nat := 7 + 2 * x.sl.length
def posRm (Xl : List Rm) (i : Nat) : Nat := ((Xl.take i).map wdRm).sum
def mkRms (k : Int) (Xl : List Rm) : List Rm := Xl.mapIdx (fun i x => mkRm (k + (posRm Xl i : Int)) x)
theorem mkRms_len (k : Int) (Xl : List Rm) : (mkRms k Xl).length = Xl.length := by unfold mkRms; simp
theorem mkRms_get (k : Int) (Xl : List Rm) (i : Nat) (h : i < (mkRms k Xl).length) (h' : i < Xl.length) : (mkRms k Xl)[i] = mkRm (k + (posRm Xl i : Int)) Xl[i] := List.getElem_mapIdx (f := fun i x => mkRm (k + (posRm Xl i : Int)) x) (h := h)
theorem posRm_succ {Xl : List Rm} {i : Nat} (h : i < Xl.length) : posRm Xl (i + 1) = posRm Xl i + wdRm Xl[i] := by
  unfold posRm
  rw [List.take_succ_eq_append_getElem h, List.map_append, List.sum_append]
  simp
theorem posRm_le {Xl : List Rm} (hn : RmsSmall Xl) : ∀ {i : Nat}, i ≤ Xl.length → posRm Xl i ≤ i * 3000000 := by
  intro i
  induction i with
  | zero => intro _; simp [posRm]
  | succ i ih =>
    intro hi'
    have h1 := ih (by omega)
    rw [posRm_succ (by omega)]
    have h2 : wdRm Xl[i] ≤ 3000000 := by
      have hsm := (hn.2 i (by omega)).1
      unfold wdRm
      omega
    omega
theorem posRm_all {Xl : List Rm} {i : Nat} (h : Xl.length ≤ i) : posRm Xl i = posRm Xl Xl.length := by
  unfold posRm
  rw [List.take_of_length_le h, List.take_of_length_le (Nat.le_refl _)]
structure RmSt (wr : World) (b o c0 c1 : Nat) (vv0 : Value) (v : World) (y : Rm) : Prop where
  near : Near b o 8 c0 c1 wr v
  bc : b < c0 ∨ c1 ≤ b
  q0 : c0 ≤ c1
  cells : RmCells v b o y vv0
  l0 : RssOwn c0 c1 v vv0 y.sl
  frz : ∀ i, v.frozen? ⟨b, i, none⟩ = false
  lt : b < v.heap.size
theorem RmSt.below {wr : World} {b o c0 c1 : Nat} {vv0 : Value} {v v' : World} {y : Rm} (h : RmSt wr b o c0 c1 vv0 v y) (hb : Below v.heap.size v v') : RmSt wr b o c0 c1 vv0 v' y :=
  ⟨h.near.trans (Near.below hb h.lt), h.bc, h.q0, h.cells.below hb h.lt, h.l0.below hb, fun i => (hb.frozen (p := ⟨b, i, none⟩) h.lt).trans (h.frz i), Nat.lt_of_lt_of_le h.lt hb.size⟩
theorem RmSt.s0 {wr : World} {b o c0 c1 : Nat} {vv0 : Value} {v : World} {y : Rm} (h : RmSt wr b o c0 c1 vv0 v y) (u : Int) : RmSt wr b o c0 c1 vv0 (v.setCell ⟨b, o, none⟩ (.int .i64 u)) { y with kd := u } := by
  obtain ⟨h0, h1, h2, h3, h4, h5, h6, h7⟩ := h.cells
  have ht : Touch b (b + 1) v (v.setCell ⟨b, o, none⟩ (.int .i64 u)) := Touch.setCell _ _ _ _ _ ⟨Nat.le_refl _, by simp only []; omega⟩
  have hbc := h.bc
  have hq0 := h.q0
  exact ⟨h.near.trans (Near.set _ _ _ _ _ _ _ _ (by omega) (by omega)), h.bc, h.q0, ⟨World.cell?_setCell_same' _ _ _ (by rw [h0]; rfl), (cne (by omega)).trans h1, (cne (by omega)).trans h2, (cne (by omega)).trans h3, (cne (by omega)).trans h4, (cne (by omega)).trans h5, (cne (by omega)).trans h6, (cne (by omega)).trans h7⟩, h.l0.touch ht (by omega), fun i => by rw [World.frozen?_setCell]; exact h.frz i, by simpa [World.setCell] using h.lt⟩
theorem RmSt.s1 {wr : World} {b o c0 c1 : Nat} {vv0 : Value} {v : World} {y : Rm} (h : RmSt wr b o c0 c1 vv0 v y) (u : Int) : RmSt wr b o c0 c1 vv0 (v.setCell ⟨b, o + 1, none⟩ (.int .i64 u)) { y with fr := u } := by
  obtain ⟨h0, h1, h2, h3, h4, h5, h6, h7⟩ := h.cells
  have ht : Touch b (b + 1) v (v.setCell ⟨b, o + 1, none⟩ (.int .i64 u)) := Touch.setCell _ _ _ _ _ ⟨Nat.le_refl _, by simp only []; omega⟩
  have hbc := h.bc
  have hq0 := h.q0
  exact ⟨h.near.trans (Near.set _ _ _ _ _ _ _ _ (by omega) (by omega)), h.bc, h.q0, ⟨(cne (by omega)).trans h0, World.cell?_setCell_same' _ _ _ (by rw [h1]; rfl), (cne (by omega)).trans h2, (cne (by omega)).trans h3, (cne (by omega)).trans h4, (cne (by omega)).trans h5, (cne (by omega)).trans h6, (cne (by omega)).trans h7⟩, h.l0.touch ht (by omega), fun i => by rw [World.frozen?_setCell]; exact h.frz i, by simpa [World.setCell] using h.lt⟩
theorem RmSt.s2 {wr : World} {b o c0 c1 : Nat} {vv0 : Value} {v : World} {y : Rm} (h : RmSt wr b o c0 c1 vv0 v y) (u : Int) : RmSt wr b o c0 c1 vv0 (v.setCell ⟨b, o + 2, none⟩ (.int .i64 u)) { y with tt := u } := by
  obtain ⟨h0, h1, h2, h3, h4, h5, h6, h7⟩ := h.cells
  have ht : Touch b (b + 1) v (v.setCell ⟨b, o + 2, none⟩ (.int .i64 u)) := Touch.setCell _ _ _ _ _ ⟨Nat.le_refl _, by simp only []; omega⟩
  have hbc := h.bc
  have hq0 := h.q0
  exact ⟨h.near.trans (Near.set _ _ _ _ _ _ _ _ (by omega) (by omega)), h.bc, h.q0, ⟨(cne (by omega)).trans h0, (cne (by omega)).trans h1, World.cell?_setCell_same' _ _ _ (by rw [h2]; rfl), (cne (by omega)).trans h3, (cne (by omega)).trans h4, (cne (by omega)).trans h5, (cne (by omega)).trans h6, (cne (by omega)).trans h7⟩, h.l0.touch ht (by omega), fun i => by rw [World.frozen?_setCell]; exact h.frz i, by simpa [World.setCell] using h.lt⟩
theorem RmSt.s3 {wr : World} {b o c0 c1 : Nat} {vv0 : Value} {v : World} {y : Rm} (h : RmSt wr b o c0 c1 vv0 v y) (u : Int) : RmSt wr b o c0 c1 vv0 (v.setCell ⟨b, o + 3, none⟩ (.int .i64 u)) { y with ba := u } := by
  obtain ⟨h0, h1, h2, h3, h4, h5, h6, h7⟩ := h.cells
  have ht : Touch b (b + 1) v (v.setCell ⟨b, o + 3, none⟩ (.int .i64 u)) := Touch.setCell _ _ _ _ _ ⟨Nat.le_refl _, by simp only []; omega⟩
  have hbc := h.bc
  have hq0 := h.q0
  exact ⟨h.near.trans (Near.set _ _ _ _ _ _ _ _ (by omega) (by omega)), h.bc, h.q0, ⟨(cne (by omega)).trans h0, (cne (by omega)).trans h1, (cne (by omega)).trans h2, World.cell?_setCell_same' _ _ _ (by rw [h3]; rfl), (cne (by omega)).trans h4, (cne (by omega)).trans h5, (cne (by omega)).trans h6, (cne (by omega)).trans h7⟩, h.l0.touch ht (by omega), fun i => by rw [World.frozen?_setCell]; exact h.frz i, by simpa [World.setCell] using h.lt⟩
theorem RmSt.s4 {wr : World} {b o c0 c1 : Nat} {vv0 : Value} {v : World} {y : Rm} (h : RmSt wr b o c0 c1 vv0 v y) (u : Int) : RmSt wr b o c0 c1 vv0 (v.setCell ⟨b, o + 4, none⟩ (.int .i64 u)) { y with ix := u } := by
  obtain ⟨h0, h1, h2, h3, h4, h5, h6, h7⟩ := h.cells
  have ht : Touch b (b + 1) v (v.setCell ⟨b, o + 4, none⟩ (.int .i64 u)) := Touch.setCell _ _ _ _ _ ⟨Nat.le_refl _, by simp only []; omega⟩
  have hbc := h.bc
  have hq0 := h.q0
  exact ⟨h.near.trans (Near.set _ _ _ _ _ _ _ _ (by omega) (by omega)), h.bc, h.q0, ⟨(cne (by omega)).trans h0, (cne (by omega)).trans h1, (cne (by omega)).trans h2, (cne (by omega)).trans h3, World.cell?_setCell_same' _ _ _ (by rw [h4]; rfl), (cne (by omega)).trans h5, (cne (by omega)).trans h6, (cne (by omega)).trans h7⟩, h.l0.touch ht (by omega), fun i => by rw [World.frozen?_setCell]; exact h.frz i, by simpa [World.setCell] using h.lt⟩
theorem RmSt.s5 {wr : World} {b o c0 c1 : Nat} {vv0 : Value} {v : World} {y : Rm} (h : RmSt wr b o c0 c1 vv0 v y) (u : Int) : RmSt wr b o c0 c1 vv0 (v.setCell ⟨b, o + 5, none⟩ (.int .i64 u)) { y with kn := u } := by
  obtain ⟨h0, h1, h2, h3, h4, h5, h6, h7⟩ := h.cells
  have ht : Touch b (b + 1) v (v.setCell ⟨b, o + 5, none⟩ (.int .i64 u)) := Touch.setCell _ _ _ _ _ ⟨Nat.le_refl _, by simp only []; omega⟩
  have hbc := h.bc
  have hq0 := h.q0
  exact ⟨h.near.trans (Near.set _ _ _ _ _ _ _ _ (by omega) (by omega)), h.bc, h.q0, ⟨(cne (by omega)).trans h0, (cne (by omega)).trans h1, (cne (by omega)).trans h2, (cne (by omega)).trans h3, (cne (by omega)).trans h4, World.cell?_setCell_same' _ _ _ (by rw [h5]; rfl), (cne (by omega)).trans h6, (cne (by omega)).trans h7⟩, h.l0.touch ht (by omega), fun i => by rw [World.frozen?_setCell]; exact h.frz i, by simpa [World.setCell] using h.lt⟩
theorem RmSt.s6 {wr : World} {b o c0 c1 : Nat} {vv0 : Value} {v : World} {y : Rm} (h : RmSt wr b o c0 c1 vv0 v y) (u : ByteArray) : RmSt wr b o c0 c1 vv0 (v.setCell ⟨b, o + 6, none⟩ (.string u)) { y with tx := u } := by
  obtain ⟨h0, h1, h2, h3, h4, h5, h6, h7⟩ := h.cells
  have ht : Touch b (b + 1) v (v.setCell ⟨b, o + 6, none⟩ (.string u)) := Touch.setCell _ _ _ _ _ ⟨Nat.le_refl _, by simp only []; omega⟩
  have hbc := h.bc
  have hq0 := h.q0
  exact ⟨h.near.trans (Near.set _ _ _ _ _ _ _ _ (by omega) (by omega)), h.bc, h.q0, ⟨(cne (by omega)).trans h0, (cne (by omega)).trans h1, (cne (by omega)).trans h2, (cne (by omega)).trans h3, (cne (by omega)).trans h4, (cne (by omega)).trans h5, World.cell?_setCell_same' _ _ _ (by rw [h6]; rfl), (cne (by omega)).trans h7⟩, h.l0.touch ht (by omega), fun i => by rw [World.frozen?_setCell]; exact h.frz i, by simpa [World.setCell] using h.lt⟩
theorem RmSt.m0' {wr : World} {b o c0 c1 : Nat} {vv0 : Value} {v v' : World} {y : Rm} (h : RmSt wr b o c0 c1 vv0 v y) (ht : Touch c0 c1 v v') {L : List Rs} (hl : RssOwn c0 c1 v' vv0 L) : RmSt wr b o c0 c1 vv0 v' { y with sl := L } := by
  obtain ⟨h0, h1, h2, h3, h4, h5, h6, h7⟩ := h.cells
  have hbc := h.bc
  have hq0 := h.q0
  have hlt := h.lt
  have e : ∀ i, v'.cell? ⟨b, i, none⟩ = v.cell? ⟨b, i, none⟩ := fun i => ht.cell (p := ⟨b, i, none⟩) h.lt (by simp only []; omega)
  exact ⟨h.near.trans (Near.touch ht h.lt (by omega) (by omega) (by omega)), h.bc, h.q0, ⟨(e _).trans h0, (e _).trans h1, (e _).trans h2, (e _).trans h3, (e _).trans h4, (e _).trans h5, (e _).trans h6, (e _).trans h7⟩, hl, fun i => (ht.frozen (p := ⟨b, i, none⟩) h.lt (by simp only []; omega)).trans (h.frz i), Nat.lt_of_lt_of_le h.lt ht.size⟩
end Go.Proofs.Ytoklnkojacdciaa
