import Derived.Test.YtlednecohppljaaB07
import Derived.Test.YtlednecohppljaaB11
namespace Go.Proofs.Ytlednecohppljaa
open Go.RowKit Go.Deep

def RaSize (x : Ra) : Prop := x = x
structure RaCells (w : World) (b o : Nat) (x : Ra) (vv0 : Value) : Prop where
  c0 : w.cell? ⟨b, o, none⟩ = some (.int .i64 x.ix)
  c1 : w.cell? ⟨b, o + 1, none⟩ = some vv0
theorem RaCells.below {w w' : World} {b o : Nat} {x : Ra} {vv0 : Value} (h : RaCells w b o x vv0) {m : Nat} (hb : Below m w w') (hlt : b < m) : RaCells w' b o x vv0 := by
  have e : ∀ o, w'.cell? ⟨b, o, none⟩ = w.cell? ⟨b, o, none⟩ := fun o => hb.cell (p := ⟨b, o, none⟩) hlt
  exact ⟨by rw [e]; exact h.c0, by rw [e]; exact h.c1⟩
theorem RaCells.rng {w : World} {b o : Nat} {x : Ra} {a : Option Addr} {k : Nat} (h : RaCells w b o x (.slice a x.fr.length k)) : w.rangeAt b o (raL x a k) := fun j v hv => by
  match j, hv with
  | 0, hv => cases hv; exact h.c0
  | 1, hv => cases hv; exact h.c1
def RaOne (b o c0 c1 : Nat) (w : World) (x : Ra) : Prop := RaSize x ∧ ∃ (vv0 : Value), c0 ≤ c1 ∧ RaCells w b o x vv0 ∧ RisOwn c0 c1 w vv0 x.fr
theorem RaOne.near {b o c0 c1 o1 d0 d1 : Nat} {w w' : World} {x : Ra} (h : RaOne b o c0 c1 w x) (hn : Near b o1 2 d0 d1 w w') (ho : o + 2 ≤ o1 ∨ o1 + 2 ≤ o) (hi : c1 ≤ d0 ∨ d1 ≤ c0) (hb : b < c0 ∨ c1 ≤ b) : RaOne b o c0 c1 w' x := by
  obtain ⟨hs, vv0, q0, hc, l0⟩ := h
  obtain ⟨h0, h1⟩ := hc
  have e : ∀ t, t < 2 → w'.cell? ⟨b, o + t, none⟩ = w.cell? ⟨b, o + t, none⟩ := fun t ht => hn.cell _ (by omega)
  have e0 : w'.cell? ⟨b, o, none⟩ = w.cell? ⟨b, o, none⟩ := hn.cell _ (by omega)
  exact ⟨hs, vv0, q0, ⟨e0.trans h0, (e 1 (by omega)).trans h1⟩, l0.near hn (by omega) (by omega)⟩
theorem RaOne.touch {b o c0 c1 : Nat} {lo hi : Nat} {w w' : World} {x : Ra} (h : RaOne b o c0 c1 w x) (ht : Touch lo hi w w') (hlt : b < w.heap.size) (hb : b < lo ∨ hi ≤ b) (hi' : c1 ≤ lo ∨ hi ≤ c0) : RaOne b o c0 c1 w' x := by
  obtain ⟨hs, vv0, q0, hc, l0⟩ := h
  obtain ⟨h0, h1⟩ := hc
  exact ⟨hs, vv0, q0, ⟨(ht.cell (p := ⟨b, o, none⟩) hlt hb).trans h0, (ht.cell (p := ⟨b, o + 1, none⟩) hlt hb).trans h1⟩, l0.touch ht (by omega)⟩
theorem RaOne.below {b o c0 c1 : Nat}  {w w' : World} {x : Ra} (h : RaOne b o c0 c1 w x) (ht : Below w.heap.size w w') (hlt : b < w.heap.size) : RaOne b o c0 c1 w' x := by
  obtain ⟨hs, vv0, q0, hc, l0⟩ := h
  obtain ⟨h0, h1⟩ := hc
  exact ⟨hs, vv0, q0, ⟨(ht.cell (p := ⟨b, o, none⟩) hlt).trans h0, (ht.cell (p := ⟨b, o + 1, none⟩) hlt).trans h1⟩, l0.below ht⟩
structure RaRow (lo hi : Nat) (w : World) (b off n : Nat) (c : Nat → Nat × Nat) (X : Nat → Ra) : Prop where
  lt : b < w.heap.size
  low : lo ≤ b
  bh : b < hi
  seg : ∀ i, i < n → lo ≤ (c i).1 ∧ (c i).2 ≤ hi ∧ (b < (c i).1 ∨ (c i).2 ≤ b)
  ap : ∀ i j, i < n → j < n → i ≠ j → (c i).2 ≤ (c j).1 ∨ (c j).2 ≤ (c i).1
  frz : ∀ i, w.frozen? ⟨b, i, none⟩ = false
  row : ∀ i, i < n → RaOne b (off + i * 2) (c i).1 (c i).2 w (X i)
theorem RaRow.near {lo hi : Nat} {w w' : World} {b off n : Nat} {c : Nat → Nat × Nat} {X : Nat → Ra} (h : RaRow lo hi w b off n c X) {j : Nat} (hj : j < n) (hn : Near b (off + j * 2) 2 (c j).1 (c j).2 w w') {x : Ra} (hx : RaOne b (off + j * 2) (c j).1 (c j).2 w' x) : RaRow lo hi w' b off n c (fun i => if i = j then x else X i) := by
  refine ⟨Nat.lt_of_lt_of_le h.lt hn.size, h.low, h.bh, h.seg, h.ap, fun i => (hn.frz i).trans (h.frz i), fun i hi' => ?_⟩
  by_cases e : i = j
  · subst e; rw [if_pos rfl]; exact hx
  · rw [if_neg e]
    refine (h.row i hi').near hn (by omega) ?_ (h.seg i hi').2.2
    exact h.ap i j hi' hj e
theorem RaRow.touch {lo hi lo' hi' : Nat} {w w' : World} {b off n : Nat} {c : Nat → Nat × Nat} {X : Nat → Ra} (h : RaRow lo hi w b off n c X) (ht : Touch lo' hi' w w') (ho : hi ≤ lo' ∨ hi' ≤ lo) : RaRow lo hi w' b off n c X := by
  have h1 := h.low
  have h2 := h.bh
  refine ⟨Nat.lt_of_lt_of_le h.lt ht.size, h.low, h.bh, h.seg, h.ap, fun i => (ht.frozen (p := ⟨b, i, none⟩) h.lt (by simp only []; omega)).trans (h.frz i), fun i hi' => ?_⟩
  have h5 := h.seg i hi'
  exact (h.row i hi').touch ht h.lt (by omega) (by omega)
theorem RaRow.below {lo hi : Nat} {w w' : World} {b off n : Nat} {c : Nat → Nat × Nat} {X : Nat → Ra} (h : RaRow lo hi w b off n c X) (ht : Below w.heap.size w w') : RaRow lo hi w' b off n c X :=
  ⟨Nat.lt_of_lt_of_le h.lt ht.size, h.low, h.bh, h.seg, h.ap, fun i => (ht.frozen (p := ⟨b, i, none⟩) h.lt).trans (h.frz i), fun i hi' => (h.row i hi').below ht h.lt⟩
theorem RaRow.to {lo hi : Nat} {w : World} {b off n : Nat} {c : Nat → Nat × Nat} {X Y : Nat → Ra} (h : RaRow lo hi w b off n c X) (e : ∀ i, i < n → X i = Y i) : RaRow lo hi w b off n c Y :=
  ⟨h.lt, h.low, h.bh, h.seg, h.ap, h.frz, fun i hi' => e i hi' ▸ h.row i hi'⟩
/-- a list of one's own -/
def RasOwn (lo hi : Nat) (w : World) (v : Value) (Xl : List Ra) : Prop :=
  (∃ (a : Option Addr) (cap : Nat), v = .slice a 0 cap ∧ Xl = []) ∨
  ∃ (b off cap : Nat) (c : Nat → Nat × Nat) (X : Nat → Ra), v = .slice (some ⟨b, off, none⟩) Xl.length cap ∧ Xl ≠ [] ∧ Xl.length ≤ maxLen ∧ Xl.length ≤ cap ∧ (∀ i (h : i < Xl.length), X i = Xl[i]) ∧ RaRow lo hi w b off Xl.length c X
theorem RasOwn.touch {lo hi lo' hi' : Nat} {w w' : World} {v : Value} {Xl : List Ra} (h : RasOwn lo hi w v Xl) (ht : Touch lo' hi' w w') (ho : hi ≤ lo' ∨ hi' ≤ lo) : RasOwn lo hi w' v Xl := by
  rcases h with h | ⟨b, off, cap, c, X, h1, h2, h3, h4, h5, h6⟩
  · exact Or.inl h
  · exact Or.inr ⟨b, off, cap, c, X, h1, h2, h3, h4, h5, h6.touch ht ho⟩
theorem RasOwn.below {lo hi : Nat} {w w' : World} {v : Value} {Xl : List Ra} (h : RasOwn lo hi w v Xl) (ht : Below w.heap.size w w') : RasOwn lo hi w' v Xl := by
  rcases h with h | ⟨b, off, cap, c, X, h1, h2, h3, h4, h5, h6⟩
  · exact Or.inl h
  · exact Or.inr ⟨b, off, cap, c, X, h1, h2, h3, h4, h5, h6.below ht⟩
theorem RasOwn.form {lo hi : Nat} {w : World} {v : Value} {Xl : List Ra} (h : RasOwn lo hi w v Xl) : ∃ a cap, v = .slice a Xl.length cap := by
  rcases h with ⟨a, cap, h, rfl⟩ | ⟨b, off, cap, c, X, h1, _⟩
  · exact ⟨a, cap, h⟩
  · exact ⟨_, cap, h1⟩
theorem RasOwn.at {lo hi : Nat} {w : World} {v : Value} {Xl : List Ra} (h : RasOwn lo hi w v Xl) : RasAt lo w v Xl := by
  rcases h with h | ⟨b, off, cap, c, X, h1, h2, h3, h4, h5, h6⟩
  · exact Or.inl h
  · refine Or.inr ⟨b, off, cap, h1, h2, h3, h6.lt, h6.low, h4, fun i hi' => ?_⟩
    have hr := h6.row i hi'
    have g0 := h6.seg i hi'
    rw [h5 i hi'] at hr
    obtain ⟨hs, vv0, q0, hc, l0⟩ := hr
    obtain ⟨a0, k0, rfl⟩ := l0.form
    exact ⟨_, hc.rng, a0, k0, rfl, ⟨l0.at.mono (by omega)⟩⟩
/-- marks from k on -/
def mkRa (k : Int) (x : Ra) : Ra := ⟨k, imarks (k + 1) x.fr.length⟩
def wdRa (x : Ra) : Nat := 1 + x.fr.length
def posRa (Xl : List Ra) (i : Nat) : Nat := ((Xl.take i).map wdRa).sum
def mkRas (k : Int) (Xl : List Ra) : List Ra := Xl.mapIdx (fun i x => mkRa (k + (posRa Xl i : Int)) x)
theorem mkRas_len (k : Int) (Xl : List Ra) : (mkRas k Xl).length = Xl.length := by unfold mkRas; simp
theorem mkRas_get (k : Int) (Xl : List Ra) (i : Nat) (h : i < (mkRas k Xl).length) (h' : i < Xl.length) : (mkRas k Xl)[i] = mkRa (k + (posRa Xl i : Int)) Xl[i] := List.getElem_mapIdx (f := fun i x => mkRa (k + (posRa Xl i : Int)) x) (h := h)
theorem posRa_succ {Xl : List Ra} {i : Nat} (h : i < Xl.length) : posRa Xl (i + 1) = posRa Xl i + wdRa Xl[i] := by
  unfold posRa
  rw [List.take_succ_eq_append_getElem h, List.map_append, List.sum_append]
  simp
theorem posRa_le {Xl : List Ra} (hn : RasSmall Xl) : ∀ {i : Nat}, i ≤ Xl.length → posRa Xl i ≤ i * 3000000 := by
  intro i
  induction i with
  | zero => intro _; simp [posRa]
  | succ i ih =>
    intro hi'
    have h1 := ih (by omega)
    rw [posRa_succ (by omega)]
    have h2 : wdRa Xl[i] ≤ 3000000 := by
      have hsm := hn.2 i (by omega)
      unfold RaSmall RisSmall at hsm
      unfold wdRa
      omega
    omega
theorem posRa_all {Xl : List Ra} {i : Nat} (h : Xl.length ≤ i) : posRa Xl i = posRa Xl Xl.length := by
  unfold posRa
  rw [List.take_of_length_le h, List.take_of_length_le (Nat.le_refl _)]
structure RaSt (wr : World) (b o c0 c1 : Nat) (vv0 : Value) (v : World) (y : Ra) : Prop where
  near : Near b o 2 c0 c1 wr v
  bc : b < c0 ∨ c1 ≤ b
  q0 : c0 ≤ c1
  cells : RaCells v b o y vv0
  l0 : RisOwn c0 c1 v vv0 y.fr
  frz : ∀ i, v.frozen? ⟨b, i, none⟩ = false
  lt : b < v.heap.size
theorem RaSt.below {wr : World} {b o c0 c1 : Nat} {vv0 : Value} {v v' : World} {y : Ra} (h : RaSt wr b o c0 c1 vv0 v y) (hb : Below v.heap.size v v') : RaSt wr b o c0 c1 vv0 v' y :=
  ⟨h.near.trans (Near.below hb h.lt), h.bc, h.q0, h.cells.below hb h.lt, h.l0.below hb, fun i => (hb.frozen (p := ⟨b, i, none⟩) h.lt).trans (h.frz i), Nat.lt_of_lt_of_le h.lt hb.size⟩
theorem RaSt.s0 {wr : World} {b o c0 c1 : Nat} {vv0 : Value} {v : World} {y : Ra} (h : RaSt wr b o c0 c1 vv0 v y) (u : Int) : RaSt wr b o c0 c1 vv0 (v.setCell ⟨b, o, none⟩ (.int .i64 u)) { y with ix := u } := by
  obtain ⟨h0, h1⟩ := h.cells
  have ht : Touch b (b + 1) v (v.setCell ⟨b, o, none⟩ (.int .i64 u)) := Touch.setCell _ _ _ _ _ ⟨Nat.le_refl _, by simp only []; omega⟩
  have hbc := h.bc
  have hq0 := h.q0
  exact ⟨h.near.trans (Near.set _ _ _ _ _ _ _ _ (by omega) (by omega)), h.bc, h.q0, ⟨World.cell?_setCell_same' _ _ _ (by rw [h0]; rfl), (cne (by omega)).trans h1⟩, h.l0.touch ht (by omega), fun i => by rw [World.frozen?_setCell]; exact h.frz i, by simpa [World.setCell] using h.lt⟩
theorem RaSt.m0' {wr : World} {b o c0 c1 : Nat} {vv0 : Value} {v v' : World} {y : Ra} (h : RaSt wr b o c0 c1 vv0 v y) (ht : Touch c0 c1 v v') {L : List Int} (hl : RisOwn c0 c1 v' vv0 L) : RaSt wr b o c0 c1 vv0 v' { y with fr := L } := by
  obtain ⟨h0, h1⟩ := h.cells
  have hbc := h.bc
  have hq0 := h.q0
  have hlt := h.lt
  have e : ∀ i, v'.cell? ⟨b, i, none⟩ = v.cell? ⟨b, i, none⟩ := fun i => ht.cell (p := ⟨b, i, none⟩) h.lt (by simp only []; omega)
  exact ⟨h.near.trans (Near.touch ht h.lt (by omega) (by omega) (by omega)), h.bc, h.q0, ⟨(e _).trans h0, (e _).trans h1⟩, hl, fun i => (ht.frozen (p := ⟨b, i, none⟩) h.lt (by simp only []; omega)).trans (h.frz i), Nat.lt_of_lt_of_le h.lt ht.size⟩
end Go.Proofs.Ytlednecohppljaa
