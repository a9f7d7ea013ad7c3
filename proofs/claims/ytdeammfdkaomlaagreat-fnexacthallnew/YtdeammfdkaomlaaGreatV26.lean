import Derived.Test.YtdeammfdkaomlaaGreatV15
namespace Go.Proofs.YtdeammfdkaomlaaGreat
open Go.RowKit Go.Deep

def GrOne (b o c0 c1 : Nat) (w : World) (x : Gr) : Prop := GrSize x ∧ ∃ (vv0 : Value), c0 ≤ c1 ∧ GrCells w b o x vv0 ∧ IntsOwn c0 c1 w vv0 x.vb
theorem GrOne.near {b o c0 c1 o1 d0 d1 : Nat} {w w' : World} {x : Gr} (h : GrOne b o c0 c1 w x) (hn : Near b o1 7 d0 d1 w w') (ho : o + 7 ≤ o1 ∨ o1 + 7 ≤ o) (hi : c1 ≤ d0 ∨ d1 ≤ c0) (hb : b < c0 ∨ c1 ≤ b) : GrOne b o c0 c1 w' x := by
  obtain ⟨hs, vv0, q0, hc, l0⟩ := h
  obtain ⟨h0, h1, h2, h3, h4, h5, h6⟩ := hc
  have e : ∀ t, t < 7 → w'.cell? ⟨b, o + t, none⟩ = w.cell? ⟨b, o + t, none⟩ := fun t ht => hn.cell _ (by omega)
  have e0 : w'.cell? ⟨b, o, none⟩ = w.cell? ⟨b, o, none⟩ := hn.cell _ (by omega)
  exact ⟨hs, vv0, q0, ⟨e0.trans h0, (e 1 (by omega)).trans h1, (e 2 (by omega)).trans h2, (e 3 (by omega)).trans h3, (e 4 (by omega)).trans h4, (e 5 (by omega)).trans h5, (e 6 (by omega)).trans h6⟩, l0.near hn (by omega) (by omega)⟩
theorem GrOne.touch {b o c0 c1 : Nat} {lo hi : Nat} {w w' : World} {x : Gr} (h : GrOne b o c0 c1 w x) (ht : Touch lo hi w w') (hlt : b < w.heap.size) (hb : b < lo ∨ hi ≤ b) (hi' : c1 ≤ lo ∨ hi ≤ c0) : GrOne b o c0 c1 w' x := by
  obtain ⟨hs, vv0, q0, hc, l0⟩ := h
  obtain ⟨h0, h1, h2, h3, h4, h5, h6⟩ := hc
  exact ⟨hs, vv0, q0, ⟨(ht.cell (p := ⟨b, o, none⟩) hlt hb).trans h0, (ht.cell (p := ⟨b, o + 1, none⟩) hlt hb).trans h1, (ht.cell (p := ⟨b, o + 2, none⟩) hlt hb).trans h2, (ht.cell (p := ⟨b, o + 3, none⟩) hlt hb).trans h3, (ht.cell (p := ⟨b, o + 4, none⟩) hlt hb).trans h4, (ht.cell (p := ⟨b, o + 5, none⟩) hlt hb).trans h5, (ht.cell (p := ⟨b, o + 6, none⟩) hlt hb).trans h6⟩, l0.touch ht (by omega)⟩
theorem GrOne.below {b o c0 c1 : Nat}  {w w' : World} {x : Gr} (h : GrOne b o c0 c1 w x) (ht : Below w.heap.size w w') (hlt : b < w.heap.size) : GrOne b o c0 c1 w' x := by
  obtain ⟨hs, vv0, q0, hc, l0⟩ := h
  obtain ⟨h0, h1, h2, h3, h4, h5, h6⟩ := hc
  exact ⟨hs, vv0, q0, ⟨(ht.cell (p := ⟨b, o, none⟩) hlt).trans h0, (ht.cell (p := ⟨b, o + 1, none⟩) hlt).trans h1, (ht.cell (p := ⟨b, o + 2, none⟩) hlt).trans h2, (ht.cell (p := ⟨b, o + 3, none⟩) hlt).trans h3, (ht.cell (p := ⟨b, o + 4, none⟩) hlt).trans h4, (ht.cell (p := ⟨b, o + 5, none⟩) hlt).trans h5, (ht.cell (p := ⟨b, o + 6, none⟩) hlt).trans h6⟩, l0.below ht⟩
structure GrRow (lo hi : Nat) (w : World) (b off n : Nat) (c : Nat → Nat × Nat) (X : Nat → Gr) : Prop where
  lt : b < w.heap.size
  low : lo ≤ b
  bh : b < hi
  seg : ∀ i, i < n → lo ≤ (c i).1 ∧ (c i).2 ≤ hi ∧ (b < (c i).1 ∨ (c i).2 ≤ b)
  mono : ∀ i j, i < j → j < n → (c i).2 ≤ (c j).1
  frz : ∀ i, w.frozen? ⟨b, i, none⟩ = false
  row : ∀ i, i < n → GrOne b (off + i * 7) (c i).1 (c i).2 w (X i)
theorem GrRow.near {lo hi : Nat} {w w' : World} {b off n : Nat} {c : Nat → Nat × Nat} {X : Nat → Gr} (h : GrRow lo hi w b off n c X) {j : Nat} (hj : j < n) (hn : Near b (off + j * 7) 7 (c j).1 (c j).2 w w') {x : Gr} (hx : GrOne b (off + j * 7) (c j).1 (c j).2 w' x) : GrRow lo hi w' b off n c (fun i => if i = j then x else X i) := by
  refine ⟨Nat.lt_of_lt_of_le h.lt hn.size, h.low, h.bh, h.seg, h.mono, fun i => (hn.frz i).trans (h.frz i), fun i hi' => ?_⟩
  by_cases e : i = j
  · subst e; rw [if_pos rfl]; exact hx
  · rw [if_neg e]
    refine (h.row i hi').near hn (by omega) ?_ (h.seg i hi').2.2
    rcases Nat.lt_or_ge i j with hij | hij
    · exact Or.inl (h.mono i j hij hj)
    · exact Or.inr (h.mono j i (by omega) hi')
theorem GrRow.touch {lo hi lo' hi' : Nat} {w w' : World} {b off n : Nat} {c : Nat → Nat × Nat} {X : Nat → Gr} (h : GrRow lo hi w b off n c X) (ht : Touch lo' hi' w w') (ho : hi ≤ lo' ∨ hi' ≤ lo) : GrRow lo hi w' b off n c X := by
  have h1 := h.low
  have h2 := h.bh
  refine ⟨Nat.lt_of_lt_of_le h.lt ht.size, h.low, h.bh, h.seg, h.mono, fun i => (ht.frozen (p := ⟨b, i, none⟩) h.lt (by simp only []; omega)).trans (h.frz i), fun i hi' => ?_⟩
  have h5 := h.seg i hi'
  exact (h.row i hi').touch ht h.lt (by omega) (by omega)
theorem GrRow.below {lo hi : Nat} {w w' : World} {b off n : Nat} {c : Nat → Nat × Nat} {X : Nat → Gr} (h : GrRow lo hi w b off n c X) (ht : Below w.heap.size w w') : GrRow lo hi w' b off n c X :=
  ⟨Nat.lt_of_lt_of_le h.lt ht.size, h.low, h.bh, h.seg, h.mono, fun i => (ht.frozen (p := ⟨b, i, none⟩) h.lt).trans (h.frz i), fun i hi' => (h.row i hi').below ht h.lt⟩
theorem GrRow.to {lo hi : Nat} {w : World} {b off n : Nat} {c : Nat → Nat × Nat} {X Y : Nat → Gr} (h : GrRow lo hi w b off n c X) (e : ∀ i, i < n → X i = Y i) : GrRow lo hi w b off n c Y :=
  ⟨h.lt, h.low, h.bh, h.seg, h.mono, h.frz, fun i hi' => e i hi' ▸ h.row i hi'⟩
/-- a list of one's own -/
def GrsOwn (lo hi : Nat) (w : World) (v : Value) (Xl : List Gr) : Prop :=
  (∃ (a : Option Addr) (cap : Nat), v = .slice a 0 cap ∧ Xl = []) ∨
  ∃ (b off cap : Nat) (c : Nat → Nat × Nat) (X : Nat → Gr), v = .slice (some ⟨b, off, none⟩) Xl.length cap ∧ Xl ≠ [] ∧ Xl.length ≤ maxLen ∧ Xl.length ≤ cap ∧ (∀ i (h : i < Xl.length), X i = Xl[i]) ∧ GrRow lo hi w b off Xl.length c X
theorem GrsOwn.touch {lo hi lo' hi' : Nat} {w w' : World} {v : Value} {Xl : List Gr} (h : GrsOwn lo hi w v Xl) (ht : Touch lo' hi' w w') (ho : hi ≤ lo' ∨ hi' ≤ lo) : GrsOwn lo hi w' v Xl := by
  rcases h with h | ⟨b, off, cap, c, X, h1, h2, h3, h4, h5, h6⟩
  · exact Or.inl h
  · exact Or.inr ⟨b, off, cap, c, X, h1, h2, h3, h4, h5, h6.touch ht ho⟩
theorem GrsOwn.below {lo hi : Nat} {w w' : World} {v : Value} {Xl : List Gr} (h : GrsOwn lo hi w v Xl) (ht : Below w.heap.size w w') : GrsOwn lo hi w' v Xl := by
  rcases h with h | ⟨b, off, cap, c, X, h1, h2, h3, h4, h5, h6⟩
  · exact Or.inl h
  · exact Or.inr ⟨b, off, cap, c, X, h1, h2, h3, h4, h5, h6.below ht⟩
theorem GrsOwn.form {lo hi : Nat} {w : World} {v : Value} {Xl : List Gr} (h : GrsOwn lo hi w v Xl) : ∃ a cap, v = .slice a Xl.length cap := by
  rcases h with ⟨a, cap, h, rfl⟩ | ⟨b, off, cap, c, X, h1, _⟩
  · exact ⟨a, cap, h⟩
  · exact ⟨_, cap, h1⟩
theorem GrsOwn.at {lo hi : Nat} {w : World} {v : Value} {Xl : List Gr} (h : GrsOwn lo hi w v Xl) : GrsAt lo w v Xl := by
  rcases h with h | ⟨b, off, cap, c, X, h1, h2, h3, h4, h5, h6⟩
  · exact Or.inl h
  · refine Or.inr ⟨b, off, cap, h1, h2, h3, h6.lt, h6.low, h4, fun i hi' => ?_⟩
    have hr := h6.row i hi'
    have g0 := h6.seg i hi'
    rw [h5 i hi'] at hr
    obtain ⟨hs, vv0, q0, hc, l0⟩ := hr
    exact ⟨hs, vv0, hc, (l0.in').mono (by omega)⟩
/-- marks from k on -/
def mkGr (k : Int) (x : Gr) : Gr := ⟨k, mtB (k + 1), mtB (k + 1 + 1), imarks (k + 1 + 1 + 1) x.vb.length, mtB (k + 1 + 1 + 1 + x.vb.length), mtB (k + 1 + 1 + 1 + x.vb.length + 1), mtB (k + 1 + 1 + 1 + x.vb.length + 1 + 1)⟩
def wdGr (x : Gr) : Nat := 6 + x.vb.length
def posGr (Xl : List Gr) (i : Nat) : Nat := ((Xl.take i).map wdGr).sum
def mkGrs (k : Int) (Xl : List Gr) : List Gr := Xl.mapIdx (fun i x => mkGr (k + (posGr Xl i : Int)) x)
theorem mkGrs_len (k : Int) (Xl : List Gr) : (mkGrs k Xl).length = Xl.length := by unfold mkGrs; simp
theorem mkGrs_get (k : Int) (Xl : List Gr) (i : Nat) (h : i < (mkGrs k Xl).length) (h' : i < Xl.length) : (mkGrs k Xl)[i] = mkGr (k + (posGr Xl i : Int)) Xl[i] := List.getElem_mapIdx (f := fun i x => mkGr (k + (posGr Xl i : Int)) x) (h := h)
theorem posGr_succ {Xl : List Gr} {i : Nat} (h : i < Xl.length) : posGr Xl (i + 1) = posGr Xl i + wdGr Xl[i] := by
  unfold posGr
  rw [List.take_succ_eq_append_getElem h, List.map_append, List.sum_append]
  simp
theorem posGr_le {Xl : List Gr} (hn : GrsSmall Xl) : ∀ {i : Nat}, i ≤ Xl.length → posGr Xl i ≤ i * 3000000 := by
  intro i
  induction i with
  | zero => intro _; simp [posGr]
  | succ i ih =>
    intro hi'
    have h1 := ih (by omega)
    rw [posGr_succ (by omega)]
    have h2 : wdGr Xl[i] ≤ 3000000 := by
      have hsm := hn.2 i (by omega)
      unfold GrSmall at hsm
      unfold wdGr
      omega
    omega
structure GrSt (wr : World) (b o c0 c1 : Nat) (vv0 : Value) (v : World) (y : Gr) : Prop where
  near : Near b o 7 c0 c1 wr v
  bc : b < c0 ∨ c1 ≤ b
  q0 : c0 ≤ c1
  cells : GrCells v b o y vv0
  l0 : IntsOwn c0 c1 v vv0 y.vb
  frz : ∀ i, v.frozen? ⟨b, i, none⟩ = false
  lt : b < v.heap.size
theorem GrSt.below {wr : World} {b o c0 c1 : Nat} {vv0 : Value} {v v' : World} {y : Gr} (h : GrSt wr b o c0 c1 vv0 v y) (hb : Below v.heap.size v v') : GrSt wr b o c0 c1 vv0 v' y :=
  ⟨h.near.trans (Near.below hb h.lt), h.bc, h.q0, h.cells.below hb h.lt, h.l0.below hb, fun i => (hb.frozen (p := ⟨b, i, none⟩) h.lt).trans (h.frz i), Nat.lt_of_lt_of_le h.lt hb.size⟩
theorem GrSt.s0 {wr : World} {b o c0 c1 : Nat} {vv0 : Value} {v : World} {y : Gr} (h : GrSt wr b o c0 c1 vv0 v y) (u : Int) : GrSt wr b o c0 c1 vv0 (v.setCell ⟨b, o, none⟩ (.int .i64 u)) { y with nu := u } := by
  obtain ⟨h0, h1, h2, h3, h4, h5, h6⟩ := h.cells
  have ht : Touch b (b + 1) v (v.setCell ⟨b, o, none⟩ (.int .i64 u)) := Touch.setCell _ _ _ _ _ ⟨Nat.le_refl _, by simp only []; omega⟩
  have hbc := h.bc
  have hq0 := h.q0
  exact ⟨h.near.trans (Near.set _ _ _ _ _ _ _ _ (by omega) (by omega)), h.bc, h.q0, ⟨World.cell?_setCell_same' _ _ _ (by rw [h0]; rfl), (cne (by omega)).trans h1, (cne (by omega)).trans h2, (cne (by omega)).trans h3, (cne (by omega)).trans h4, (cne (by omega)).trans h5, (cne (by omega)).trans h6⟩, h.l0.touch ht (by omega), fun i => by rw [World.frozen?_setCell]; exact h.frz i, by simpa [World.setCell] using h.lt⟩
theorem GrSt.s1 {wr : World} {b o c0 c1 : Nat} {vv0 : Value} {v : World} {y : Gr} (h : GrSt wr b o c0 c1 vv0 v y) (u : ByteArray) : GrSt wr b o c0 c1 vv0 (v.setCell ⟨b, o + 1, none⟩ (.string u)) { y with tw := u } := by
  obtain ⟨h0, h1, h2, h3, h4, h5, h6⟩ := h.cells
  have ht : Touch b (b + 1) v (v.setCell ⟨b, o + 1, none⟩ (.string u)) := Touch.setCell _ _ _ _ _ ⟨Nat.le_refl _, by simp only []; omega⟩
  have hbc := h.bc
  have hq0 := h.q0
  exact ⟨h.near.trans (Near.set _ _ _ _ _ _ _ _ (by omega) (by omega)), h.bc, h.q0, ⟨(cne (by omega)).trans h0, World.cell?_setCell_same' _ _ _ (by rw [h1]; rfl), (cne (by omega)).trans h2, (cne (by omega)).trans h3, (cne (by omega)).trans h4, (cne (by omega)).trans h5, (cne (by omega)).trans h6⟩, h.l0.touch ht (by omega), fun i => by rw [World.frozen?_setCell]; exact h.frz i, by simpa [World.setCell] using h.lt⟩
theorem GrSt.s2 {wr : World} {b o c0 c1 : Nat} {vv0 : Value} {v : World} {y : Gr} (h : GrSt wr b o c0 c1 vv0 v y) (u : ByteArray) : GrSt wr b o c0 c1 vv0 (v.setCell ⟨b, o + 2, none⟩ (.string u)) { y with gb := u } := by
  obtain ⟨h0, h1, h2, h3, h4, h5, h6⟩ := h.cells
  have ht : Touch b (b + 1) v (v.setCell ⟨b, o + 2, none⟩ (.string u)) := Touch.setCell _ _ _ _ _ ⟨Nat.le_refl _, by simp only []; omega⟩
  have hbc := h.bc
  have hq0 := h.q0
  exact ⟨h.near.trans (Near.set _ _ _ _ _ _ _ _ (by omega) (by omega)), h.bc, h.q0, ⟨(cne (by omega)).trans h0, (cne (by omega)).trans h1, World.cell?_setCell_same' _ _ _ (by rw [h2]; rfl), (cne (by omega)).trans h3, (cne (by omega)).trans h4, (cne (by omega)).trans h5, (cne (by omega)).trans h6⟩, h.l0.touch ht (by omega), fun i => by rw [World.frozen?_setCell]; exact h.frz i, by simpa [World.setCell] using h.lt⟩
theorem GrSt.s4 {wr : World} {b o c0 c1 : Nat} {vv0 : Value} {v : World} {y : Gr} (h : GrSt wr b o c0 c1 vv0 v y) (u : ByteArray) : GrSt wr b o c0 c1 vv0 (v.setCell ⟨b, o + 4, none⟩ (.string u)) { y with kd := u } := by
  obtain ⟨h0, h1, h2, h3, h4, h5, h6⟩ := h.cells
  have ht : Touch b (b + 1) v (v.setCell ⟨b, o + 4, none⟩ (.string u)) := Touch.setCell _ _ _ _ _ ⟨Nat.le_refl _, by simp only []; omega⟩
  have hbc := h.bc
  have hq0 := h.q0
  exact ⟨h.near.trans (Near.set _ _ _ _ _ _ _ _ (by omega) (by omega)), h.bc, h.q0, ⟨(cne (by omega)).trans h0, (cne (by omega)).trans h1, (cne (by omega)).trans h2, (cne (by omega)).trans h3, World.cell?_setCell_same' _ _ _ (by rw [h4]; rfl), (cne (by omega)).trans h5, (cne (by omega)).trans h6⟩, h.l0.touch ht (by omega), fun i => by rw [World.frozen?_setCell]; exact h.frz i, by simpa [World.setCell] using h.lt⟩
theorem GrSt.s5 {wr : World} {b o c0 c1 : Nat} {vv0 : Value} {v : World} {y : Gr} (h : GrSt wr b o c0 c1 vv0 v y) (u : ByteArray) : GrSt wr b o c0 c1 vv0 (v.setCell ⟨b, o + 5, none⟩ (.string u)) { y with tm := u } := by
  obtain ⟨h0, h1, h2, h3, h4, h5, h6⟩ := h.cells
  have ht : Touch b (b + 1) v (v.setCell ⟨b, o + 5, none⟩ (.string u)) := Touch.setCell _ _ _ _ _ ⟨Nat.le_refl _, by simp only []; omega⟩
  have hbc := h.bc
  have hq0 := h.q0
  exact ⟨h.near.trans (Near.set _ _ _ _ _ _ _ _ (by omega) (by omega)), h.bc, h.q0, ⟨(cne (by omega)).trans h0, (cne (by omega)).trans h1, (cne (by omega)).trans h2, (cne (by omega)).trans h3, (cne (by omega)).trans h4, World.cell?_setCell_same' _ _ _ (by rw [h5]; rfl), (cne (by omega)).trans h6⟩, h.l0.touch ht (by omega), fun i => by rw [World.frozen?_setCell]; exact h.frz i, by simpa [World.setCell] using h.lt⟩
theorem GrSt.s6 {wr : World} {b o c0 c1 : Nat} {vv0 : Value} {v : World} {y : Gr} (h : GrSt wr b o c0 c1 vv0 v y) (u : ByteArray) : GrSt wr b o c0 c1 vv0 (v.setCell ⟨b, o + 6, none⟩ (.string u)) { y with pf := u } := by
  obtain ⟨h0, h1, h2, h3, h4, h5, h6⟩ := h.cells
  have ht : Touch b (b + 1) v (v.setCell ⟨b, o + 6, none⟩ (.string u)) := Touch.setCell _ _ _ _ _ ⟨Nat.le_refl _, by simp only []; omega⟩
  have hbc := h.bc
  have hq0 := h.q0
  exact ⟨h.near.trans (Near.set _ _ _ _ _ _ _ _ (by omega) (by omega)), h.bc, h.q0, ⟨(cne (by omega)).trans h0, (cne (by omega)).trans h1, (cne (by omega)).trans h2, (cne (by omega)).trans h3, (cne (by omega)).trans h4, (cne (by omega)).trans h5, World.cell?_setCell_same' _ _ _ (by rw [h6]; rfl)⟩, h.l0.touch ht (by omega), fun i => by rw [World.frozen?_setCell]; exact h.frz i, by simpa [World.setCell] using h.lt⟩
theorem GrSt.m0' {wr : World} {b o c0 c1 : Nat} {vv0 : Value} {v v' : World} {y : Gr} (h : GrSt wr b o c0 c1 vv0 v y) (ht : Touch c0 c1 v v') {L : List Int} (hl : IntsOwn c0 c1 v' vv0 L) : GrSt wr b o c0 c1 vv0 v' { y with vb := L } := by
  obtain ⟨h0, h1, h2, h3, h4, h5, h6⟩ := h.cells
  have hbc := h.bc
  have hq0 := h.q0
  have hlt := h.lt
  have e : ∀ i, v'.cell? ⟨b, i, none⟩ = v.cell? ⟨b, i, none⟩ := fun i => ht.cell (p := ⟨b, i, none⟩) h.lt (by simp only []; omega)
  exact ⟨h.near.trans (Near.touch ht h.lt (by omega) (by omega) (by omega)), h.bc, h.q0, ⟨(e _).trans h0, (e _).trans h1, (e _).trans h2, (e _).trans h3, (e _).trans h4, (e _).trans h5, (e _).trans h6⟩, hl, fun i => (ht.frozen (p := ⟨b, i, none⟩) h.lt (by simp only []; omega)).trans (h.frz i), Nat.lt_of_lt_of_le h.lt ht.size⟩
end Go.Proofs.YtdeammfdkaomlaaGreat
