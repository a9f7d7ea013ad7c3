import Derived.Test.YtmaagbnjpdijnaaYOWX
import Derived.Test.YtmaagbnjpdijnaaYB1
import Derived.Test.YtmaagbnjpdijnaaYDA
import Derived.Test.YtmaagbnjpdijnaaYM2
import Derived.Test.YtmaagbnjpdijnaaYM1
import Derived.Test.YtmaagbnjpdijnaaYA1
import Derived.Test.YtmaagbnjpdijnaaYTD
namespace Go.Proofs.Ytmaagbnjpdijnaa
open Go.RowKit Go.Deep

def FdSmall (x : Fd) : Prop := x.words.length ≤ 1048576
def FfOne (b o c0 c1 : Nat) (w : World) (x : Fd) : Prop := FdSize x ∧ ∃ (vv0 : Value), c0 ≤ c1 ∧ FdCells w b o x vv0 ∧ StrsOwn c0 c1 w vv0 x.words
theorem FfOne.near {b o c0 c1 o1 d0 d1 : Nat} {w w' : World} {x : Fd} (h : FfOne b o c0 c1 w x) (hn : Near b o1 11 d0 d1 w w') (ho : o + 11 ≤ o1 ∨ o1 + 11 ≤ o) (hi : c1 ≤ d0 ∨ d1 ≤ c0) (hb : b < c0 ∨ c1 ≤ b) : FfOne b o c0 c1 w' x := by
  obtain ⟨hs, vv0, q0, hc, l0⟩ := h
  obtain ⟨h0, h1, h2, h3, h4, h5, h6, h7, h8, h9, h10⟩ := hc
  have e : ∀ t, t < 11 → w'.cell? ⟨b, o + t, none⟩ = w.cell? ⟨b, o + t, none⟩ := fun t ht => hn.cell _ (by omega)
  have e0 : w'.cell? ⟨b, o, none⟩ = w.cell? ⟨b, o, none⟩ := hn.cell _ (by omega)
  exact ⟨hs, vv0, q0, ⟨e0.trans h0, (e 1 (by omega)).trans h1, (e 2 (by omega)).trans h2, (e 3 (by omega)).trans h3, (e 4 (by omega)).trans h4, (e 5 (by omega)).trans h5, (e 6 (by omega)).trans h6, (e 7 (by omega)).trans h7, (e 8 (by omega)).trans h8, (e 9 (by omega)).trans h9, (e 10 (by omega)).trans h10⟩, l0.near hn (by omega) (by omega)⟩
theorem FfOne.touch {b o c0 c1 : Nat} {lo hi : Nat} {w w' : World} {x : Fd} (h : FfOne b o c0 c1 w x) (ht : Touch lo hi w w') (hlt : b < w.heap.size) (hb : b < lo ∨ hi ≤ b) (hi' : c1 ≤ lo ∨ hi ≤ c0) : FfOne b o c0 c1 w' x := by
  obtain ⟨hs, vv0, q0, hc, l0⟩ := h
  obtain ⟨h0, h1, h2, h3, h4, h5, h6, h7, h8, h9, h10⟩ := hc
  exact ⟨hs, vv0, q0, ⟨(ht.cell (p := ⟨b, o, none⟩) hlt hb).trans h0, (ht.cell (p := ⟨b, o + 1, none⟩) hlt hb).trans h1, (ht.cell (p := ⟨b, o + 2, none⟩) hlt hb).trans h2, (ht.cell (p := ⟨b, o + 3, none⟩) hlt hb).trans h3, (ht.cell (p := ⟨b, o + 4, none⟩) hlt hb).trans h4, (ht.cell (p := ⟨b, o + 5, none⟩) hlt hb).trans h5, (ht.cell (p := ⟨b, o + 6, none⟩) hlt hb).trans h6, (ht.cell (p := ⟨b, o + 7, none⟩) hlt hb).trans h7, (ht.cell (p := ⟨b, o + 8, none⟩) hlt hb).trans h8, (ht.cell (p := ⟨b, o + 9, none⟩) hlt hb).trans h9, (ht.cell (p := ⟨b, o + 10, none⟩) hlt hb).trans h10⟩, l0.touch ht (by omega)⟩
theorem FfOne.below {b o c0 c1 : Nat}  {w w' : World} {x : Fd} (h : FfOne b o c0 c1 w x) (ht : Below w.heap.size w w') (hlt : b < w.heap.size) : FfOne b o c0 c1 w' x := by
  obtain ⟨hs, vv0, q0, hc, l0⟩ := h
  obtain ⟨h0, h1, h2, h3, h4, h5, h6, h7, h8, h9, h10⟩ := hc
  exact ⟨hs, vv0, q0, ⟨(ht.cell (p := ⟨b, o, none⟩) hlt).trans h0, (ht.cell (p := ⟨b, o + 1, none⟩) hlt).trans h1, (ht.cell (p := ⟨b, o + 2, none⟩) hlt).trans h2, (ht.cell (p := ⟨b, o + 3, none⟩) hlt).trans h3, (ht.cell (p := ⟨b, o + 4, none⟩) hlt).trans h4, (ht.cell (p := ⟨b, o + 5, none⟩) hlt).trans h5, (ht.cell (p := ⟨b, o + 6, none⟩) hlt).trans h6, (ht.cell (p := ⟨b, o + 7, none⟩) hlt).trans h7, (ht.cell (p := ⟨b, o + 8, none⟩) hlt).trans h8, (ht.cell (p := ⟨b, o + 9, none⟩) hlt).trans h9, (ht.cell (p := ⟨b, o + 10, none⟩) hlt).trans h10⟩, l0.below ht⟩
structure FfRow (lo hi : Nat) (w : World) (b off n : Nat) (c : Nat → Nat × Nat) (X : Nat → Fd) : Prop where
  lt : b < w.heap.size
  low : lo ≤ b
  bh : b < hi
  seg : ∀ i, i < n → lo ≤ (c i).1 ∧ (c i).2 ≤ hi ∧ (b < (c i).1 ∨ (c i).2 ≤ b)
  mono : ∀ i j, i < j → j < n → (c i).2 ≤ (c j).1
  frz : ∀ i, w.frozen? ⟨b, i, none⟩ = false
  row : ∀ i, i < n → FfOne b (off + i * 11) (c i).1 (c i).2 w (X i)
theorem FfRow.near {lo hi : Nat} {w w' : World} {b off n : Nat} {c : Nat → Nat × Nat} {X : Nat → Fd} (h : FfRow lo hi w b off n c X) {j : Nat} (hj : j < n) (hn : Near b (off + j * 11) 11 (c j).1 (c j).2 w w') {x : Fd} (hx : FfOne b (off + j * 11) (c j).1 (c j).2 w' x) : FfRow lo hi w' b off n c (fun i => if i = j then x else X i) := by
  refine ⟨Nat.lt_of_lt_of_le h.lt hn.size, h.low, h.bh, h.seg, h.mono, fun i => (hn.frz i).trans (h.frz i), fun i hi' => ?_⟩
  by_cases e : i = j
  · subst e; rw [if_pos rfl]; exact hx
  · rw [if_neg e]
    refine (h.row i hi').near hn (by omega) ?_ (h.seg i hi').2.2
    rcases Nat.lt_or_ge i j with hij | hij
    · exact Or.inl (h.mono i j hij hj)
    · exact Or.inr (h.mono j i (by omega) hi')
theorem FfRow.touch {lo hi lo' hi' : Nat} {w w' : World} {b off n : Nat} {c : Nat → Nat × Nat} {X : Nat → Fd} (h : FfRow lo hi w b off n c X) (ht : Touch lo' hi' w w') (ho : hi ≤ lo' ∨ hi' ≤ lo) : FfRow lo hi w' b off n c X := by
  have h1 := h.low
  have h2 := h.bh
  refine ⟨Nat.lt_of_lt_of_le h.lt ht.size, h.low, h.bh, h.seg, h.mono, fun i => (ht.frozen (p := ⟨b, i, none⟩) h.lt (by simp only []; omega)).trans (h.frz i), fun i hi' => ?_⟩
  have h5 := h.seg i hi'
  exact (h.row i hi').touch ht h.lt (by omega) (by omega)
theorem FfRow.below {lo hi : Nat} {w w' : World} {b off n : Nat} {c : Nat → Nat × Nat} {X : Nat → Fd} (h : FfRow lo hi w b off n c X) (ht : Below w.heap.size w w') : FfRow lo hi w' b off n c X :=
  ⟨Nat.lt_of_lt_of_le h.lt ht.size, h.low, h.bh, h.seg, h.mono, fun i => (ht.frozen (p := ⟨b, i, none⟩) h.lt).trans (h.frz i), fun i hi' => (h.row i hi').below ht h.lt⟩
theorem FfRow.to {lo hi : Nat} {w : World} {b off n : Nat} {c : Nat → Nat × Nat} {X Y : Nat → Fd} (h : FfRow lo hi w b off n c X) (e : ∀ i, i < n → X i = Y i) : FfRow lo hi w b off n c Y :=
  ⟨h.lt, h.low, h.bh, h.seg, h.mono, h.frz, fun i hi' => e i hi' ▸ h.row i hi'⟩
/-- a list of one's own -/
def FdsOwn (lo hi : Nat) (w : World) (v : Value) (Xl : List Fd) : Prop :=
  (∃ (a : Option Addr) (cap : Nat), v = .slice a 0 cap ∧ Xl = []) ∨
  ∃ (b off cap : Nat) (c : Nat → Nat × Nat) (X : Nat → Fd), v = .slice (some ⟨b, off, none⟩) Xl.length cap ∧ Xl ≠ [] ∧ Xl.length ≤ maxLen ∧ Xl.length ≤ cap ∧ (∀ i (h : i < Xl.length), X i = Xl[i]) ∧ FfRow lo hi w b off Xl.length c X
theorem FdsOwn.touch {lo hi lo' hi' : Nat} {w w' : World} {v : Value} {Xl : List Fd} (h : FdsOwn lo hi w v Xl) (ht : Touch lo' hi' w w') (ho : hi ≤ lo' ∨ hi' ≤ lo) : FdsOwn lo hi w' v Xl := by
  rcases h with h | ⟨b, off, cap, c, X, h1, h2, h3, h4, h5, h6⟩
  · exact Or.inl h
  · exact Or.inr ⟨b, off, cap, c, X, h1, h2, h3, h4, h5, h6.touch ht ho⟩
theorem FdsOwn.below {lo hi : Nat} {w w' : World} {v : Value} {Xl : List Fd} (h : FdsOwn lo hi w v Xl) (ht : Below w.heap.size w w') : FdsOwn lo hi w' v Xl := by
  rcases h with h | ⟨b, off, cap, c, X, h1, h2, h3, h4, h5, h6⟩
  · exact Or.inl h
  · exact Or.inr ⟨b, off, cap, c, X, h1, h2, h3, h4, h5, h6.below ht⟩
theorem FdsOwn.form {lo hi : Nat} {w : World} {v : Value} {Xl : List Fd} (h : FdsOwn lo hi w v Xl) : ∃ a cap, v = .slice a Xl.length cap := by
  rcases h with ⟨a, cap, h, rfl⟩ | ⟨b, off, cap, c, X, h1, _⟩
  · exact ⟨a, cap, h⟩
  · exact ⟨_, cap, h1⟩
theorem FdsOwn.at {lo hi : Nat} {w : World} {v : Value} {Xl : List Fd} (h : FdsOwn lo hi w v Xl) : FdsAt lo w v Xl := by
  rcases h with h | ⟨b, off, cap, c, X, h1, h2, h3, h4, h5, h6⟩
  · exact Or.inl h
  · refine Or.inr ⟨b, off, cap, h1, h2, h3, h6.lt, h6.low, h4, fun i hi' => ?_⟩
    have hr := h6.row i hi'
    have g0 := h6.seg i hi'
    rw [h5 i hi'] at hr
    obtain ⟨hs, vv0, q0, hc, l0⟩ := hr
    exact ⟨hs, vv0, hc, (l0.in').mono (by omega)⟩
/-- marks from k on -/
def mkFd (k : Int) (x : Fd) : Fd := ⟨mtB (k), k + 1, k + 1 + 1, k + 1 + 1 + 1, marks (k + 1 + 1 + 1 + 1) x.words.length, mtB (k + 1 + 1 + 1 + 1 + x.words.length), k + 1 + 1 + 1 + 1 + x.words.length + 1, ((k + 1 + 1 + 1 + 1 + x.words.length + 1 + 1) % 3 == 0), ((k + 1 + 1 + 1 + 1 + x.words.length + 1 + 1 + 1) % 3 == 0), mtB (k + 1 + 1 + 1 + 1 + x.words.length + 1 + 1 + 1 + 1), mtB (k + 1 + 1 + 1 + 1 + x.words.length + 1 + 1 + 1 + 1 + 1)⟩
def wdFd (x : Fd) : Nat := 10 + x.words.length
def posFd (Xl : List Fd) (i : Nat) : Nat := ((Xl.take i).map wdFd).sum
def mkFds (k : Int) (Xl : List Fd) : List Fd := Xl.mapIdx (fun i x => mkFd (k + (posFd Xl i : Int)) x)
theorem mkFds_len (k : Int) (Xl : List Fd) : (mkFds k Xl).length = Xl.length := by unfold mkFds; simp
theorem mkFds_get (k : Int) (Xl : List Fd) (i : Nat) (h : i < (mkFds k Xl).length) (h' : i < Xl.length) : (mkFds k Xl)[i] = mkFd (k + (posFd Xl i : Int)) Xl[i] := List.getElem_mapIdx (f := fun i x => mkFd (k + (posFd Xl i : Int)) x) (h := h)
theorem posFd_succ {Xl : List Fd} {i : Nat} (h : i < Xl.length) : posFd Xl (i + 1) = posFd Xl i + wdFd Xl[i] := by
  unfold posFd
  rw [List.take_succ_eq_append_getElem h, List.map_append, List.sum_append]
  simp
theorem posFd_le {Xl : List Fd} (hn : FdsSmall Xl) : ∀ {i : Nat}, i ≤ Xl.length → posFd Xl i ≤ i * 3000000 := by
  intro i
  induction i with
  | zero => intro _; simp [posFd]
  | succ i ih =>
    intro hi'
    have h1 := ih (by omega)
    rw [posFd_succ (by omega)]
    have h2 : wdFd Xl[i] ≤ 3000000 := by
      have hsm := hn.2 i (by omega)
      unfold FdSmall at hsm
      unfold wdFd
      omega
    omega
structure FfSt (wr : World) (b o c0 c1 : Nat) (vv0 : Value) (v : World) (y : Fd) : Prop where
  near : Near b o 11 c0 c1 wr v
  bc : b < c0 ∨ c1 ≤ b
  q0 : c0 ≤ c1
  cells : FdCells v b o y vv0
  l0 : StrsOwn c0 c1 v vv0 y.words
  frz : ∀ i, v.frozen? ⟨b, i, none⟩ = false
  lt : b < v.heap.size
theorem FfSt.below {wr : World} {b o c0 c1 : Nat} {vv0 : Value} {v v' : World} {y : Fd} (h : FfSt wr b o c0 c1 vv0 v y) (hb : Below v.heap.size v v') : FfSt wr b o c0 c1 vv0 v' y :=
  ⟨h.near.trans (Near.below hb h.lt), h.bc, h.q0, h.cells.below hb h.lt, h.l0.below hb, fun i => (hb.frozen (p := ⟨b, i, none⟩) h.lt).trans (h.frz i), Nat.lt_of_lt_of_le h.lt hb.size⟩
theorem FfSt.s0 {wr : World} {b o c0 c1 : Nat} {vv0 : Value} {v : World} {y : Fd} (h : FfSt wr b o c0 c1 vv0 v y) (u : ByteArray) : FfSt wr b o c0 c1 vv0 (v.setCell ⟨b, o, none⟩ (.string u)) { y with nm := u } := by
  obtain ⟨h0, h1, h2, h3, h4, h5, h6, h7, h8, h9, h10⟩ := h.cells
  have ht : Touch b (b + 1) v (v.setCell ⟨b, o, none⟩ (.string u)) := Touch.setCell _ _ _ _ _ ⟨Nat.le_refl _, by simp only []; omega⟩
  have hbc := h.bc
  have hq0 := h.q0
  exact ⟨h.near.trans (Near.set _ _ _ _ _ _ _ _ (by omega) (by omega)), h.bc, h.q0, ⟨World.cell?_setCell_same' _ _ _ (by rw [h0]; rfl), (cne (by omega)).trans h1, (cne (by omega)).trans h2, (cne (by omega)).trans h3, (cne (by omega)).trans h4, (cne (by omega)).trans h5, (cne (by omega)).trans h6, (cne (by omega)).trans h7, (cne (by omega)).trans h8, (cne (by omega)).trans h9, (cne (by omega)).trans h10⟩, h.l0.touch ht (by omega), fun i => by rw [World.frozen?_setCell]; exact h.frz i, by simpa [World.setCell] using h.lt⟩
theorem FfSt.s1 {wr : World} {b o c0 c1 : Nat} {vv0 : Value} {v : World} {y : Fd} (h : FfSt wr b o c0 c1 vv0 v y) (u : Int) : FfSt wr b o c0 c1 vv0 (v.setCell ⟨b, o + 1, none⟩ (.int .i64 u)) { y with kd := u } := by
  obtain ⟨h0, h1, h2, h3, h4, h5, h6, h7, h8, h9, h10⟩ := h.cells
  have ht : Touch b (b + 1) v (v.setCell ⟨b, o + 1, none⟩ (.int .i64 u)) := Touch.setCell _ _ _ _ _ ⟨Nat.le_refl _, by simp only []; omega⟩
  have hbc := h.bc
  have hq0 := h.q0
  exact ⟨h.near.trans (Near.set _ _ _ _ _ _ _ _ (by omega) (by omega)), h.bc, h.q0, ⟨(cne (by omega)).trans h0, World.cell?_setCell_same' _ _ _ (by rw [h1]; rfl), (cne (by omega)).trans h2, (cne (by omega)).trans h3, (cne (by omega)).trans h4, (cne (by omega)).trans h5, (cne (by omega)).trans h6, (cne (by omega)).trans h7, (cne (by omega)).trans h8, (cne (by omega)).trans h9, (cne (by omega)).trans h10⟩, h.l0.touch ht (by omega), fun i => by rw [World.frozen?_setCell]; exact h.frz i, by simpa [World.setCell] using h.lt⟩
theorem FfSt.s2 {wr : World} {b o c0 c1 : Nat} {vv0 : Value} {v : World} {y : Fd} (h : FfSt wr b o c0 c1 vv0 v y) (u : Int) : FfSt wr b o c0 c1 vv0 (v.setCell ⟨b, o + 2, none⟩ (.int .i64 u)) { y with le := u } := by
  obtain ⟨h0, h1, h2, h3, h4, h5, h6, h7, h8, h9, h10⟩ := h.cells
  have ht : Touch b (b + 1) v (v.setCell ⟨b, o + 2, none⟩ (.int .i64 u)) := Touch.setCell _ _ _ _ _ ⟨Nat.le_refl _, by simp only []; omega⟩
  have hbc := h.bc
  have hq0 := h.q0
  exact ⟨h.near.trans (Near.set _ _ _ _ _ _ _ _ (by omega) (by omega)), h.bc, h.q0, ⟨(cne (by omega)).trans h0, (cne (by omega)).trans h1, World.cell?_setCell_same' _ _ _ (by rw [h2]; rfl), (cne (by omega)).trans h3, (cne (by omega)).trans h4, (cne (by omega)).trans h5, (cne (by omega)).trans h6, (cne (by omega)).trans h7, (cne (by omega)).trans h8, (cne (by omega)).trans h9, (cne (by omega)).trans h10⟩, h.l0.touch ht (by omega), fun i => by rw [World.frozen?_setCell]; exact h.frz i, by simpa [World.setCell] using h.lt⟩
theorem FfSt.s3 {wr : World} {b o c0 c1 : Nat} {vv0 : Value} {v : World} {y : Fd} (h : FfSt wr b o c0 c1 vv0 v y) (u : Int) : FfSt wr b o c0 c1 vv0 (v.setCell ⟨b, o + 3, none⟩ (.int .i64 u)) { y with mo := u } := by
  obtain ⟨h0, h1, h2, h3, h4, h5, h6, h7, h8, h9, h10⟩ := h.cells
  have ht : Touch b (b + 1) v (v.setCell ⟨b, o + 3, none⟩ (.int .i64 u)) := Touch.setCell _ _ _ _ _ ⟨Nat.le_refl _, by simp only []; omega⟩
  have hbc := h.bc
  have hq0 := h.q0
  exact ⟨h.near.trans (Near.set _ _ _ _ _ _ _ _ (by omega) (by omega)), h.bc, h.q0, ⟨(cne (by omega)).trans h0, (cne (by omega)).trans h1, (cne (by omega)).trans h2, World.cell?_setCell_same' _ _ _ (by rw [h3]; rfl), (cne (by omega)).trans h4, (cne (by omega)).trans h5, (cne (by omega)).trans h6, (cne (by omega)).trans h7, (cne (by omega)).trans h8, (cne (by omega)).trans h9, (cne (by omega)).trans h10⟩, h.l0.touch ht (by omega), fun i => by rw [World.frozen?_setCell]; exact h.frz i, by simpa [World.setCell] using h.lt⟩
theorem FfSt.s5 {wr : World} {b o c0 c1 : Nat} {vv0 : Value} {v : World} {y : Fd} (h : FfSt wr b o c0 c1 vv0 v y) (u : ByteArray) : FfSt wr b o c0 c1 vv0 (v.setCell ⟨b, o + 5, none⟩ (.string u)) { y with «to» := u } := by
  obtain ⟨h0, h1, h2, h3, h4, h5, h6, h7, h8, h9, h10⟩ := h.cells
  have ht : Touch b (b + 1) v (v.setCell ⟨b, o + 5, none⟩ (.string u)) := Touch.setCell _ _ _ _ _ ⟨Nat.le_refl _, by simp only []; omega⟩
  have hbc := h.bc
  have hq0 := h.q0
  exact ⟨h.near.trans (Near.set _ _ _ _ _ _ _ _ (by omega) (by omega)), h.bc, h.q0, ⟨(cne (by omega)).trans h0, (cne (by omega)).trans h1, (cne (by omega)).trans h2, (cne (by omega)).trans h3, (cne (by omega)).trans h4, World.cell?_setCell_same' _ _ _ (by rw [h5]; rfl), (cne (by omega)).trans h6, (cne (by omega)).trans h7, (cne (by omega)).trans h8, (cne (by omega)).trans h9, (cne (by omega)).trans h10⟩, h.l0.touch ht (by omega), fun i => by rw [World.frozen?_setCell]; exact h.frz i, by simpa [World.setCell] using h.lt⟩
theorem FfSt.s6 {wr : World} {b o c0 c1 : Nat} {vv0 : Value} {v : World} {y : Fd} (h : FfSt wr b o c0 c1 vv0 v y) (u : Int) : FfSt wr b o c0 c1 vv0 (v.setCell ⟨b, o + 6, none⟩ (.int .i64 u)) { y with ro := u } := by
  obtain ⟨h0, h1, h2, h3, h4, h5, h6, h7, h8, h9, h10⟩ := h.cells
  have ht : Touch b (b + 1) v (v.setCell ⟨b, o + 6, none⟩ (.int .i64 u)) := Touch.setCell _ _ _ _ _ ⟨Nat.le_refl _, by simp only []; omega⟩
  have hbc := h.bc
  have hq0 := h.q0
  exact ⟨h.near.trans (Near.set _ _ _ _ _ _ _ _ (by omega) (by omega)), h.bc, h.q0, ⟨(cne (by omega)).trans h0, (cne (by omega)).trans h1, (cne (by omega)).trans h2, (cne (by omega)).trans h3, (cne (by omega)).trans h4, (cne (by omega)).trans h5, World.cell?_setCell_same' _ _ _ (by rw [h6]; rfl), (cne (by omega)).trans h7, (cne (by omega)).trans h8, (cne (by omega)).trans h9, (cne (by omega)).trans h10⟩, h.l0.touch ht (by omega), fun i => by rw [World.frozen?_setCell]; exact h.frz i, by simpa [World.setCell] using h.lt⟩
theorem FfSt.s7 {wr : World} {b o c0 c1 : Nat} {vv0 : Value} {v : World} {y : Fd} (h : FfSt wr b o c0 c1 vv0 v y) (u : Bool) : FfSt wr b o c0 c1 vv0 (v.setCell ⟨b, o + 7, none⟩ (.bool u)) { y with mu := u } := by
  obtain ⟨h0, h1, h2, h3, h4, h5, h6, h7, h8, h9, h10⟩ := h.cells
  have ht : Touch b (b + 1) v (v.setCell ⟨b, o + 7, none⟩ (.bool u)) := Touch.setCell _ _ _ _ _ ⟨Nat.le_refl _, by simp only []; omega⟩
  have hbc := h.bc
  have hq0 := h.q0
  exact ⟨h.near.trans (Near.set _ _ _ _ _ _ _ _ (by omega) (by omega)), h.bc, h.q0, ⟨(cne (by omega)).trans h0, (cne (by omega)).trans h1, (cne (by omega)).trans h2, (cne (by omega)).trans h3, (cne (by omega)).trans h4, (cne (by omega)).trans h5, (cne (by omega)).trans h6, World.cell?_setCell_same' _ _ _ (by rw [h7]; rfl), (cne (by omega)).trans h8, (cne (by omega)).trans h9, (cne (by omega)).trans h10⟩, h.l0.touch ht (by omega), fun i => by rw [World.frozen?_setCell]; exact h.frz i, by simpa [World.setCell] using h.lt⟩
theorem FfSt.s8 {wr : World} {b o c0 c1 : Nat} {vv0 : Value} {v : World} {y : Fd} (h : FfSt wr b o c0 c1 vv0 v y) (u : Bool) : FfSt wr b o c0 c1 vv0 (v.setCell ⟨b, o + 8, none⟩ (.bool u)) { y with fx := u } := by
  obtain ⟨h0, h1, h2, h3, h4, h5, h6, h7, h8, h9, h10⟩ := h.cells
  have ht : Touch b (b + 1) v (v.setCell ⟨b, o + 8, none⟩ (.bool u)) := Touch.setCell _ _ _ _ _ ⟨Nat.le_refl _, by simp only []; omega⟩
  have hbc := h.bc
  have hq0 := h.q0
  exact ⟨h.near.trans (Near.set _ _ _ _ _ _ _ _ (by omega) (by omega)), h.bc, h.q0, ⟨(cne (by omega)).trans h0, (cne (by omega)).trans h1, (cne (by omega)).trans h2, (cne (by omega)).trans h3, (cne (by omega)).trans h4, (cne (by omega)).trans h5, (cne (by omega)).trans h6, (cne (by omega)).trans h7, World.cell?_setCell_same' _ _ _ (by rw [h8]; rfl), (cne (by omega)).trans h9, (cne (by omega)).trans h10⟩, h.l0.touch ht (by omega), fun i => by rw [World.frozen?_setCell]; exact h.frz i, by simpa [World.setCell] using h.lt⟩
theorem FfSt.s9 {wr : World} {b o c0 c1 : Nat} {vv0 : Value} {v : World} {y : Fd} (h : FfSt wr b o c0 c1 vv0 v y) (u : ByteArray) : FfSt wr b o c0 c1 vv0 (v.setCell ⟨b, o + 9, none⟩ (.string u)) { y with df := u } := by
  obtain ⟨h0, h1, h2, h3, h4, h5, h6, h7, h8, h9, h10⟩ := h.cells
  have ht : Touch b (b + 1) v (v.setCell ⟨b, o + 9, none⟩ (.string u)) := Touch.setCell _ _ _ _ _ ⟨Nat.le_refl _, by simp only []; omega⟩
  have hbc := h.bc
  have hq0 := h.q0
  exact ⟨h.near.trans (Near.set _ _ _ _ _ _ _ _ (by omega) (by omega)), h.bc, h.q0, ⟨(cne (by omega)).trans h0, (cne (by omega)).trans h1, (cne (by omega)).trans h2, (cne (by omega)).trans h3, (cne (by omega)).trans h4, (cne (by omega)).trans h5, (cne (by omega)).trans h6, (cne (by omega)).trans h7, (cne (by omega)).trans h8, World.cell?_setCell_same' _ _ _ (by rw [h9]; rfl), (cne (by omega)).trans h10⟩, h.l0.touch ht (by omega), fun i => by rw [World.frozen?_setCell]; exact h.frz i, by simpa [World.setCell] using h.lt⟩
theorem FfSt.s10 {wr : World} {b o c0 c1 : Nat} {vv0 : Value} {v : World} {y : Fd} (h : FfSt wr b o c0 c1 vv0 v y) (u : ByteArray) : FfSt wr b o c0 c1 vv0 (v.setCell ⟨b, o + 10, none⟩ (.string u)) { y with we := u } := by
  obtain ⟨h0, h1, h2, h3, h4, h5, h6, h7, h8, h9, h10⟩ := h.cells
  have ht : Touch b (b + 1) v (v.setCell ⟨b, o + 10, none⟩ (.string u)) := Touch.setCell _ _ _ _ _ ⟨Nat.le_refl _, by simp only []; omega⟩
  have hbc := h.bc
  have hq0 := h.q0
  exact ⟨h.near.trans (Near.set _ _ _ _ _ _ _ _ (by omega) (by omega)), h.bc, h.q0, ⟨(cne (by omega)).trans h0, (cne (by omega)).trans h1, (cne (by omega)).trans h2, (cne (by omega)).trans h3, (cne (by omega)).trans h4, (cne (by omega)).trans h5, (cne (by omega)).trans h6, (cne (by omega)).trans h7, (cne (by omega)).trans h8, (cne (by omega)).trans h9, World.cell?_setCell_same' _ _ _ (by rw [h10]; rfl)⟩, h.l0.touch ht (by omega), fun i => by rw [World.frozen?_setCell]; exact h.frz i, by simpa [World.setCell] using h.lt⟩
theorem FfSt.m0' {wr : World} {b o c0 c1 : Nat} {vv0 : Value} {v v' : World} {y : Fd} (h : FfSt wr b o c0 c1 vv0 v y) (ht : Touch c0 c1 v v') {L : List ByteArray} (hl : StrsOwn c0 c1 v' vv0 L) : FfSt wr b o c0 c1 vv0 v' { y with words := L } := by
  obtain ⟨h0, h1, h2, h3, h4, h5, h6, h7, h8, h9, h10⟩ := h.cells
  have hbc := h.bc
  have hq0 := h.q0
  have hlt := h.lt
  have e : ∀ i, v'.cell? ⟨b, i, none⟩ = v.cell? ⟨b, i, none⟩ := fun i => ht.cell (p := ⟨b, i, none⟩) h.lt (by simp only []; omega)
  exact ⟨h.near.trans (Near.touch ht h.lt (by omega) (by omega) (by omega)), h.bc, h.q0, ⟨(e _).trans h0, (e _).trans h1, (e _).trans h2, (e _).trans h3, (e _).trans h4, (e _).trans h5, (e _).trans h6, (e _).trans h7, (e _).trans h8, (e _).trans h9, (e _).trans h10⟩, hl, fun i => (ht.frozen (p := ⟨b, i, none⟩) h.lt (by simp only []; omega)).trans (h.frz i), Nat.lt_of_lt_of_le h.lt ht.size⟩
end Go.Proofs.Ytmaagbnjpdijnaa

namespace Go.Proofs.Ytmaagbnjpdijnaa
open Go.RowKit Go.Deep

set_option maxRecDepth 20000 in
set_option maxHeartbeats 8000000 in
theorem markFdsO_any (lo hi : Nat) (v : Value) (Xl : List Fd) (k : Int) (w : World) (hv : FdsOwn lo hi w v Xl) (hn : FdsSmall Xl) (h0 : 0 ≤ k) (hk : k ≤ 2000000000000000000) :
    Calls Try.prog 72 #[v, .int .i64 k] w fun e w' => e = .returned (.int .i64 (k + (posFd Xl Xl.length : Int))) ∧ Touch lo hi w w' ∧ FdsOwn lo hi w' v (mkFds k Xl) := by
  rcases hv with ⟨a, cap, rfl, rfl⟩ | ⟨b, off, cap, c, X, rfl, hne, hm, hcap, hX, hR⟩
  · go_enter Try.func72, Try.ntmps72
    go_wp2
    go_loop [5, 1] (fun i q => i = .int .i64 0 ∧ q = .int .i64 k) (fun _ _ => 0)
    case atStart => exact ⟨rfl, rfl⟩
    case round =>
      obtain ⟨rfl, rfl⟩ := hrel
      go_wp2
      go_ret
      exact ⟨by simp [posFd], Touch.refl _ _ _, Or.inl ⟨_, _, rfl, rfl⟩⟩
  · have hlen := hn.1
    have HN := hide hn
    have HX := hide hX
    have HR0 := hide hR
    have HM := hide hm
    have HC := hide hcap
    have HNE := hide hne
    clear hn hX hR hm hcap hne
    go_enter Try.func72, Try.ntmps72
    go_wp2
    go_loopw [5, 1] (fun i q wr => ∃ j : Nat, i = .int .i64 j ∧ q = .int .i64 (k + (posFd Xl j : Int)) ∧ j ≤ Xl.length ∧ Touch lo hi w wr ∧ FfRow lo hi wr b off Xl.length c (fun i => if i < j then mkFd (k + (posFd Xl i : Int)) (X i) else X i)) (fun i _ _ => Xl.length - (intOf i).toNat)
    case atStart => exact ⟨0, rfl, by simp [posFd], by omega, Touch.refl _ _ _, HR0.out.to (fun i _ => by simp)⟩
    case round =>
      obtain ⟨j, rfl, rfl, hj, ht, hr⟩ := hrel
      have HT := hide ht
      have HR := hide hr
      clear ht hr HR0
      by_cases hlt : j < Xl.length
      · have hpos := posFd_le HN.out (i := j) (by omega)
        have HP := hide (posFd_succ hlt)
        have hone : FfOne b (off + j * 11) (c j).1 (c j).2 wr (X j) := by
          have := HR.out.row j hlt
          simp only [Nat.lt_irrefl, if_false] at this
          exact this
        have hxj : X j = Xl[j] := HX.out j hlt
        obtain ⟨x, hx⟩ : ∃ x, x = X j := ⟨_, rfl⟩
        rw [← hx] at hone
        obtain ⟨hs, vv0, q0, hc, l0⟩ := hone
        have hs0 : x.words.length ≤ 1048576 := by have := HN.out.2 j hlt; rw [hx, hxj]; unfold FdSmall at this; omega
        have HXJ := hide hxj
        have HXX := hide hx
        obtain ⟨K, hK⟩ : ∃ K, K = k + (posFd Xl j : Int) := ⟨_, rfl⟩
        rw [← hK]
        have hK0 : 0 ≤ K := by omega
        have hK1 : K ≤ 2500000000000000000 := by omega
        have HK := hide hK
        have HBC : Hid (b < (c j).1 ∨ (c j).2 ≤ b) := (HR.out.seg j hlt).2.2
        have HS : Hid (FfSt wr b (off + j * 11) (c j).1 (c j).2 vv0 wr x) := ⟨Near.refl _ _ _ _ _ _, HBC.out, q0, hc, l0, HR.out.frz, HR.out.lt⟩
        clear hpos hxj hx hs hc l0 q0 hK
        obtain ⟨d0, d1, d2, d3, d4, d5, d6, d7, d8, d9, d10⟩ := HS.out.cells
        have fz := HS.out.frz
        go_wp2_with fail
        clear d0 d1 d2 d3 d4 d5 d6 d7 d8 d9 d10 fz
        refine (markText_any _ _ (by omega)).mono ?_
        rintro e v1 ⟨rfl, hb⟩
        have HS1 := hide (HS.out.below hb)
        clear hb HS
        obtain ⟨d0, d1, d2, d3, d4, d5, d6, d7, d8, d9, d10⟩ := HS1.out.cells
        have fz := HS1.out.frz
        go_wp2_with fail
        clear d0 d1 d2 d3 d4 d5 d6 d7 d8 d9 d10 fz
        obtain ⟨v2, hv2, HS2⟩ : ∃ v', v' = ((((v1.setCell ⟨b, off + j * 11, none⟩ (.string (mtB (K)))).setCell ⟨b, off + j * 11 + 1, none⟩ (.int .i64 (K + 1))).setCell ⟨b, off + j * 11 + 2, none⟩ (.int .i64 (K + 1 + 1))).setCell ⟨b, off + j * 11 + 3, none⟩ (.int .i64 (K + 1 + 1 + 1))) ∧ Hid (FfSt wr b (off + j * 11) (c j).1 (c j).2 vv0 v' ⟨mtB (K), K + 1, K + 1 + 1, K + 1 + 1 + 1, x.words, x.to, x.ro, x.mu, x.fx, x.df, x.we⟩) := ⟨_, rfl, ((((HS1.out.s0 (mtB (K))).s1 (K + 1)).s2 (K + 1 + 1)).s3 (K + 1 + 1 + 1))⟩
        rw [← hv2]
        clear hv2 HS1
        refine (markStrs_any _ _ _ x.words _ _ HS2.out.l0 (by omega) (by omega)).mono ?_
        rintro e v3 ⟨rfl, ht, hl⟩
        have HS3 : Hid (FfSt wr b (off + j * 11) (c j).1 (c j).2 vv0 v3 ⟨mtB (K), K + 1, K + 1 + 1, K + 1 + 1 + 1, marks (K + 1 + 1 + 1 + 1) x.words.length, x.to, x.ro, x.mu, x.fx, x.df, x.we⟩) := HS2.out.m0' ht hl
        clear ht hl HS2
        obtain ⟨d0, d1, d2, d3, d4, d5, d6, d7, d8, d9, d10⟩ := HS3.out.cells
        have fz := HS3.out.frz
        go_wp2_with fail
        clear d0 d1 d2 d3 d4 d5 d6 d7 d8 d9 d10 fz
        refine (markText_any _ _ (by omega)).mono ?_
        rintro e v4 ⟨rfl, hb⟩
        have HS4 := hide (HS3.out.below hb)
        clear hb HS3
        obtain ⟨d0, d1, d2, d3, d4, d5, d6, d7, d8, d9, d10⟩ := HS4.out.cells
        have fz := HS4.out.frz
        go_wp2_with fail
        clear d0 d1 d2 d3 d4 d5 d6 d7 d8 d9 d10 fz
        obtain ⟨v5, hv5, HS5⟩ : ∃ v', v' = ((((v4.setCell ⟨b, off + j * 11 + 5, none⟩ (.string (mtB (K + 1 + 1 + 1 + 1 + (x.words.length : Int))))).setCell ⟨b, off + j * 11 + 6, none⟩ (.int .i64 (K + 1 + 1 + 1 + 1 + (x.words.length : Int) + 1))).setCell ⟨b, off + j * 11 + 7, none⟩ (.bool (((K + 1 + 1 + 1 + 1 + (x.words.length : Int) + 1 + 1) % 3 == 0)))).setCell ⟨b, off + j * 11 + 8, none⟩ (.bool (((K + 1 + 1 + 1 + 1 + (x.words.length : Int) + 1 + 1 + 1) % 3 == 0)))) ∧ Hid (FfSt wr b (off + j * 11) (c j).1 (c j).2 vv0 v' ⟨mtB (K), K + 1, K + 1 + 1, K + 1 + 1 + 1, marks (K + 1 + 1 + 1 + 1) x.words.length, mtB (K + 1 + 1 + 1 + 1 + (x.words.length : Int)), K + 1 + 1 + 1 + 1 + (x.words.length : Int) + 1, ((K + 1 + 1 + 1 + 1 + (x.words.length : Int) + 1 + 1) % 3 == 0), ((K + 1 + 1 + 1 + 1 + (x.words.length : Int) + 1 + 1 + 1) % 3 == 0), x.df, x.we⟩) := ⟨_, rfl, ((((HS4.out.s5 (mtB (K + 1 + 1 + 1 + 1 + (x.words.length : Int)))).s6 (K + 1 + 1 + 1 + 1 + (x.words.length : Int) + 1)).s7 (((K + 1 + 1 + 1 + 1 + (x.words.length : Int) + 1 + 1) % 3 == 0))).s8 (((K + 1 + 1 + 1 + 1 + (x.words.length : Int) + 1 + 1 + 1) % 3 == 0)))⟩
        rw [← hv5]
        clear hv5 HS4
        refine (markText_any _ _ (by omega)).mono ?_
        rintro e v6 ⟨rfl, hb⟩
        have HS6 := hide (HS5.out.below hb)
        clear hb HS5
        obtain ⟨d0, d1, d2, d3, d4, d5, d6, d7, d8, d9, d10⟩ := HS6.out.cells
        have fz := HS6.out.frz
        go_wp2_with fail
        clear d0 d1 d2 d3 d4 d5 d6 d7 d8 d9 d10 fz
        obtain ⟨v7, hv7, HS7⟩ : ∃ v', v' = (v6.setCell ⟨b, off + j * 11 + 9, none⟩ (.string (mtB (K + 1 + 1 + 1 + 1 + (x.words.length : Int) + 1 + 1 + 1 + 1)))) ∧ Hid (FfSt wr b (off + j * 11) (c j).1 (c j).2 vv0 v' ⟨mtB (K), K + 1, K + 1 + 1, K + 1 + 1 + 1, marks (K + 1 + 1 + 1 + 1) x.words.length, mtB (K + 1 + 1 + 1 + 1 + (x.words.length : Int)), K + 1 + 1 + 1 + 1 + (x.words.length : Int) + 1, ((K + 1 + 1 + 1 + 1 + (x.words.length : Int) + 1 + 1) % 3 == 0), ((K + 1 + 1 + 1 + 1 + (x.words.length : Int) + 1 + 1 + 1) % 3 == 0), mtB (K + 1 + 1 + 1 + 1 + (x.words.length : Int) + 1 + 1 + 1 + 1), x.we⟩) := ⟨_, rfl, (HS6.out.s9 (mtB (K + 1 + 1 + 1 + 1 + (x.words.length : Int) + 1 + 1 + 1 + 1)))⟩
        rw [← hv7]
        clear hv7 HS6
        refine (markText_any _ _ (by omega)).mono ?_
        rintro e v8 ⟨rfl, hb⟩
        have HS8 := hide (HS7.out.below hb)
        clear hb HS7
        obtain ⟨d0, d1, d2, d3, d4, d5, d6, d7, d8, d9, d10⟩ := HS8.out.cells
        have fz := HS8.out.frz
        go_wp2
        clear d0 d1 d2 d3 d4 d5 d6 d7 d8 d9 d10 fz
        obtain ⟨v9, hv9, HS9⟩ : ∃ v', v' = (v8.setCell ⟨b, off + j * 11 + 10, none⟩ (.string (mtB (K + 1 + 1 + 1 + 1 + (x.words.length : Int) + 1 + 1 + 1 + 1 + 1)))) ∧ Hid (FfSt wr b (off + j * 11) (c j).1 (c j).2 vv0 v' ⟨mtB (K), K + 1, K + 1 + 1, K + 1 + 1 + 1, marks (K + 1 + 1 + 1 + 1) x.words.length, mtB (K + 1 + 1 + 1 + 1 + (x.words.length : Int)), K + 1 + 1 + 1 + 1 + (x.words.length : Int) + 1, ((K + 1 + 1 + 1 + 1 + (x.words.length : Int) + 1 + 1) % 3 == 0), ((K + 1 + 1 + 1 + 1 + (x.words.length : Int) + 1 + 1 + 1) % 3 == 0), mtB (K + 1 + 1 + 1 + 1 + (x.words.length : Int) + 1 + 1 + 1 + 1), mtB (K + 1 + 1 + 1 + 1 + (x.words.length : Int) + 1 + 1 + 1 + 1 + 1)⟩) := ⟨_, rfl, (HS8.out.s10 (mtB (K + 1 + 1 + 1 + 1 + (x.words.length : Int) + 1 + 1 + 1 + 1 + 1)))⟩
        rw [← hv9]
        clear hv9 HS8
        have HW : Hid (wdFd Xl[j] = 10 + x.words.length) := by unfold Hid; rw [← HXJ.out, ← HXX.out]; rfl
        have HQ : Hid ((K + 1 + 1 + 1 + 1 + (x.words.length : Int) + 1 + 1 + 1 + 1 + 1 + 1 : Int) = k + (posFd Xl (j + 1) : Int)) := by
          have h1 := HP.out
          have h2 := HW.out
          have h3 := HK.out
          unfold Hid
          omega
        have HRN := hide (HR.out.near hlt HS9.out.near (show FfOne b (off + j * 11) (c j).1 (c j).2 v9 (mkFd K x) from ⟨⟨mt_size _ (by omega), mt_size _ (by omega), mt_size _ (by omega), mt_size _ (by omega)⟩, _, HS9.out.q0, HS9.out.cells, HS9.out.l0⟩))
        have HTN := hide (HS9.out.near.wide HR.out.lt (lo' := lo) (hi' := hi) (HR.out.seg j hlt).1 (HR.out.seg j hlt).2.1 ⟨HR.out.low, HR.out.bh⟩)
        go_roundw
        case rel =>
          refine ⟨j + 1, by go_num, congrArg (Value.int .i64) HQ.out, by omega, HT.out.trans HTN.out, HRN.out.to (fun i hi' => ?_)⟩
          by_cases e : i = j
          · subst e
            rw [if_pos rfl, if_pos (by omega), ← HK.out, HXX.out]
          · rw [if_neg e]
            by_cases e2 : i < j
            · rw [if_pos e2, if_pos (by omega)]
            · rw [if_neg e2, if_neg (by omega)]
        case measure => simp [intOf]; omega
      · have e : j = Xl.length := by omega
        subst e
        go_wp2
        go_ret
        refine ⟨rfl, HT.out, Or.inr ⟨b, off, cap, c, fun i => mkFd (k + (posFd Xl i : Int)) (X i), by rw [mkFds_len], ?_, by rw [mkFds_len]; exact HM.out, by rw [mkFds_len]; exact HC.out, fun i h => ?_, ?_⟩⟩
        · intro e
          have := congrArg List.length e
          rw [mkFds_len] at this
          exact HNE.out (List.length_eq_zero_iff.1 (by simpa using this))
        · have h' : i < Xl.length := by rw [mkFds_len] at h; exact h
          rw [mkFds_get _ _ _ _ h', ← HX.out i h']
        · rw [mkFds_len]
          exact HR.out.to (fun i hi' => by rw [if_pos hi'])
end Go.Proofs.Ytmaagbnjpdijnaa

namespace Go.Proofs.Ytmaagbnjpdijnaa
open Go.RowKit Go.Deep

set_option maxRecDepth 20000 in
set_option maxHeartbeats 8000000 in
theorem heldFds_any (lo hi : Nat) (v : Value) (Xl : List Fd) (k : Int) (w : World) (hv : FdsOwn lo hi w v (mkFds k Xl)) (hn : FdsSmall Xl) (h0 : 0 ≤ k) (hk : k ≤ 2000000000000000000) :
    Calls Try.prog 73 #[v, .int .i64 k] w fun e w' => e = .returned (.int .i64 (k + (posFd Xl Xl.length : Int))) ∧ Below w.heap.size w w' := by
  have HA := hide hv.at
  have HN := hide hn
  have hlen := hn.1
  obtain ⟨a, cap, hv'⟩ := hv.form
  rw [mkFds_len] at hv'
  subst hv'
  clear hv hn
  go_enter Try.func73, Try.ntmps73
  go_wp2
  go_loopw [5, 1] (fun i q wr => ∃ j : Nat, i = .int .i64 j ∧ q = .int .i64 (k + (posFd Xl j : Int)) ∧ j ≤ Xl.length ∧ Below w.heap.size w wr) (fun i _ _ => Xl.length - (intOf i).toNat)
  case atStart => exact ⟨0, rfl, by simp [posFd], by omega, Below.refl _ _⟩
  case round =>
    obtain ⟨j, rfl, rfl, hj, hb⟩ := hrel
    have HB0 := hide hb
    clear hb
    by_cases hlt : j < Xl.length
    · obtain ⟨b, off, rfl, hbw, hc⟩ := HA.out.full' (by rw [mkFds_len]; omega)
      have hcj := hc j (by rw [mkFds_len]; omega)
      rw [mkFds_get _ _ _ _ hlt] at hcj
      have hpos := posFd_le HN.out (i := j) (by omega)
      have HP := hide (posFd_succ hlt)
      obtain ⟨x, hx⟩ : ∃ x, x = Xl[j] := ⟨_, rfl⟩
      rw [← hx] at hcj
      have hs0 : x.words.length ≤ 1048576 := by have := HN.out.2 j hlt; rw [hx]; unfold FdSmall at this; omega
      have HXX := hide hx
      obtain ⟨K, hK⟩ : ∃ K, K = k + (posFd Xl j : Int) := ⟨_, rfl⟩
      rw [← hK] at hcj
      rw [← hK]
      have hK0 : 0 ≤ K := by omega
      have hK1 : K ≤ 2500000000000000000 := by omega
      have HK := hide hK
      obtain ⟨_, vv0, hcl, g0⟩ := hcj
      have HC := hide hcl
      have HL0 : Hid (StrsIn lo w vv0 (marks (K + 1 + 1 + 1 + 1) x.words.length)) := g0
      obtain ⟨va0, vc0, rfl⟩ := HL0.out.at.form'
      rw [marks_len] at HC HL0
      clear hc hcl hx hK hpos
      have d0 : wr.cell? ⟨b, off + j * 11, none⟩ = some (.string (mtB (K))) := (HC.out.below HB0.out hbw).c0
      have d1 : wr.cell? ⟨b, off + j * 11 + 1, none⟩ = some (.int .i64 (K + 1)) := (HC.out.below HB0.out hbw).c1
      have d2 : wr.cell? ⟨b, off + j * 11 + 2, none⟩ = some (.int .i64 (K + 1 + 1)) := (HC.out.below HB0.out hbw).c2
      have d3 : wr.cell? ⟨b, off + j * 11 + 3, none⟩ = some (.int .i64 (K + 1 + 1 + 1)) := (HC.out.below HB0.out hbw).c3
      have d4 : wr.cell? ⟨b, off + j * 11 + 4, none⟩ = some (.slice va0 x.words.length vc0) := (HC.out.below HB0.out hbw).c4
      have d5 : wr.cell? ⟨b, off + j * 11 + 5, none⟩ = some (.string (mtB (K + 1 + 1 + 1 + 1 + (x.words.length : Int)))) := (HC.out.below HB0.out hbw).c5
      have d6 : wr.cell? ⟨b, off + j * 11 + 6, none⟩ = some (.int .i64 (K + 1 + 1 + 1 + 1 + (x.words.length : Int) + 1)) := (HC.out.below HB0.out hbw).c6
      have d7 : wr.cell? ⟨b, off + j * 11 + 7, none⟩ = some (.bool ((K + 1 + 1 + 1 + 1 + (x.words.length : Int) + 1 + 1) % 3 == 0)) := (HC.out.below HB0.out hbw).c7
      have d8 : wr.cell? ⟨b, off + j * 11 + 8, none⟩ = some (.bool ((K + 1 + 1 + 1 + 1 + (x.words.length : Int) + 1 + 1 + 1) % 3 == 0)) := (HC.out.below HB0.out hbw).c8
      have d9 : wr.cell? ⟨b, off + j * 11 + 9, none⟩ = some (.string (mtB (K + 1 + 1 + 1 + 1 + (x.words.length : Int) + 1 + 1 + 1 + 1))) := (HC.out.below HB0.out hbw).c9
      have d10 : wr.cell? ⟨b, off + j * 11 + 10, none⟩ = some (.string (mtB (K + 1 + 1 + 1 + 1 + (x.words.length : Int) + 1 + 1 + 1 + 1 + 1))) := (HC.out.below HB0.out hbw).c10
      have x0 : ∀ X : In (Upo wr), X.w.cell? ⟨b, off + j * 11, none⟩ = some (.string (mtB (K))) := fun X => Upo.cell X d0
      have xn : Nonempty (In (Upo wr)) := ⟨⟨wr, Below.refl _ _⟩⟩
      have xs := fun (X : In (Upo wr)) => in_self X
      go_wp2
      clear d0 d1 d2 d3 d4 d5 d6 d7 d8 d9 d10
      refine wp_region_class (Upo wr) (by kernel_rfl) (by kernel_rfl) ((Below.refl _ _).drew) ?_
      repeat (go_big_quiet_step (first | (go_at_call 70; rename_i X; exact (markText_any _ _ (by omega)).mono fun _ _ h => ⟨h.1, Upo.next X h.2⟩)))
      refine wpQuiet_nil ?_
      intro w1 hw
      obtain ⟨Y, hY⟩ := hw
      have HB1 : Hid (Below w.heap.size w w1) := HB0.out.trans (Below.mono (show Below wr.heap.size wr w1 by rw [hY]; exact Y.h) HB0.out.size)
      clear hY Y x0 xs xn HB0
      have d0 : w1.cell? ⟨b, off + j * 11, none⟩ = some (.string (mtB (K))) := (HC.out.below HB1.out hbw).c0
      have d1 : w1.cell? ⟨b, off + j * 11 + 1, none⟩ = some (.int .i64 (K + 1)) := (HC.out.below HB1.out hbw).c1
      have d2 : w1.cell? ⟨b, off + j * 11 + 2, none⟩ = some (.int .i64 (K + 1 + 1)) := (HC.out.below HB1.out hbw).c2
      have d3 : w1.cell? ⟨b, off + j * 11 + 3, none⟩ = some (.int .i64 (K + 1 + 1 + 1)) := (HC.out.below HB1.out hbw).c3
      have d4 : w1.cell? ⟨b, off + j * 11 + 4, none⟩ = some (.slice va0 x.words.length vc0) := (HC.out.below HB1.out hbw).c4
      have d5 : w1.cell? ⟨b, off + j * 11 + 5, none⟩ = some (.string (mtB (K + 1 + 1 + 1 + 1 + (x.words.length : Int)))) := (HC.out.below HB1.out hbw).c5
      have d6 : w1.cell? ⟨b, off + j * 11 + 6, none⟩ = some (.int .i64 (K + 1 + 1 + 1 + 1 + (x.words.length : Int) + 1)) := (HC.out.below HB1.out hbw).c6
      have d7 : w1.cell? ⟨b, off + j * 11 + 7, none⟩ = some (.bool ((K + 1 + 1 + 1 + 1 + (x.words.length : Int) + 1 + 1) % 3 == 0)) := (HC.out.below HB1.out hbw).c7
      have d8 : w1.cell? ⟨b, off + j * 11 + 8, none⟩ = some (.bool ((K + 1 + 1 + 1 + 1 + (x.words.length : Int) + 1 + 1 + 1) % 3 == 0)) := (HC.out.below HB1.out hbw).c8
      have d9 : w1.cell? ⟨b, off + j * 11 + 9, none⟩ = some (.string (mtB (K + 1 + 1 + 1 + 1 + (x.words.length : Int) + 1 + 1 + 1 + 1))) := (HC.out.below HB1.out hbw).c9
      have d10 : w1.cell? ⟨b, off + j * 11 + 10, none⟩ = some (.string (mtB (K + 1 + 1 + 1 + 1 + (x.words.length : Int) + 1 + 1 + 1 + 1 + 1))) := (HC.out.below HB1.out hbw).c10
      go_wp2_with fail
      clear d0 d1 d2 d3 d4 d5 d6 d7 d8 d9 d10
      refine (heldStrs_any _ x.words.length _ _ (HL0.out.below HB1.out).at (by omega) (by omega)).mono ?_
      rintro e w2 ⟨rfl, hb⟩
      have HB2 : Hid (Below w.heap.size w w2) := HB1.out.trans (hb.mono HB1.out.size)
      clear hb HB1
      have hg4 : decide (K + 1 + 1 + 1 + 1 + (x.words.length : Int) < 0) = false := by simp; omega
      have d0 : w2.cell? ⟨b, off + j * 11, none⟩ = some (.string (mtB (K))) := (HC.out.below HB2.out hbw).c0
      have d1 : w2.cell? ⟨b, off + j * 11 + 1, none⟩ = some (.int .i64 (K + 1)) := (HC.out.below HB2.out hbw).c1
      have d2 : w2.cell? ⟨b, off + j * 11 + 2, none⟩ = some (.int .i64 (K + 1 + 1)) := (HC.out.below HB2.out hbw).c2
      have d3 : w2.cell? ⟨b, off + j * 11 + 3, none⟩ = some (.int .i64 (K + 1 + 1 + 1)) := (HC.out.below HB2.out hbw).c3
      have d4 : w2.cell? ⟨b, off + j * 11 + 4, none⟩ = some (.slice va0 x.words.length vc0) := (HC.out.below HB2.out hbw).c4
      have d5 : w2.cell? ⟨b, off + j * 11 + 5, none⟩ = some (.string (mtB (K + 1 + 1 + 1 + 1 + (x.words.length : Int)))) := (HC.out.below HB2.out hbw).c5
      have d6 : w2.cell? ⟨b, off + j * 11 + 6, none⟩ = some (.int .i64 (K + 1 + 1 + 1 + 1 + (x.words.length : Int) + 1)) := (HC.out.below HB2.out hbw).c6
      have d7 : w2.cell? ⟨b, off + j * 11 + 7, none⟩ = some (.bool ((K + 1 + 1 + 1 + 1 + (x.words.length : Int) + 1 + 1) % 3 == 0)) := (HC.out.below HB2.out hbw).c7
      have d8 : w2.cell? ⟨b, off + j * 11 + 8, none⟩ = some (.bool ((K + 1 + 1 + 1 + 1 + (x.words.length : Int) + 1 + 1 + 1) % 3 == 0)) := (HC.out.below HB2.out hbw).c8
      have d9 : w2.cell? ⟨b, off + j * 11 + 9, none⟩ = some (.string (mtB (K + 1 + 1 + 1 + 1 + (x.words.length : Int) + 1 + 1 + 1 + 1))) := (HC.out.below HB2.out hbw).c9
      have d10 : w2.cell? ⟨b, off + j * 11 + 10, none⟩ = some (.string (mtB (K + 1 + 1 + 1 + 1 + (x.words.length : Int) + 1 + 1 + 1 + 1 + 1))) := (HC.out.below HB2.out hbw).c10
      have x0 : ∀ X : In (Upo w2), X.w.cell? ⟨b, off + j * 11 + 5, none⟩ = some (.string (mtB (K + 1 + 1 + 1 + 1 + (x.words.length : Int)))) := fun X => Upo.cell X d5
      have xn : Nonempty (In (Upo w2)) := ⟨⟨w2, Below.refl _ _⟩⟩
      have xs := fun (X : In (Upo w2)) => in_self X
      go_wp2
      clear d0 d1 d2 d3 d4 d5 d6 d7 d8 d9 d10
      refine wp_region_class (Upo w2) (by kernel_rfl) (by kernel_rfl) ((Below.refl _ _).drew) ?_
      repeat (go_big_quiet_step (first | (go_at_call 70; rename_i X; exact (markText_any _ _ (by omega)).mono fun _ _ h => ⟨h.1, Upo.next X h.2⟩)))
      refine wpQuiet_nil ?_
      intro w3 hw
      obtain ⟨Y, hY⟩ := hw
      have HB3 : Hid (Below w.heap.size w w3) := HB2.out.trans (Below.mono (show Below w2.heap.size w2 w3 by rw [hY]; exact Y.h) HB2.out.size)
      clear hY Y x0 xs xn HB2
      have d0 : w3.cell? ⟨b, off + j * 11, none⟩ = some (.string (mtB (K))) := (HC.out.below HB3.out hbw).c0
      have d1 : w3.cell? ⟨b, off + j * 11 + 1, none⟩ = some (.int .i64 (K + 1)) := (HC.out.below HB3.out hbw).c1
      have d2 : w3.cell? ⟨b, off + j * 11 + 2, none⟩ = some (.int .i64 (K + 1 + 1)) := (HC.out.below HB3.out hbw).c2
      have d3 : w3.cell? ⟨b, off + j * 11 + 3, none⟩ = some (.int .i64 (K + 1 + 1 + 1)) := (HC.out.below HB3.out hbw).c3
      have d4 : w3.cell? ⟨b, off + j * 11 + 4, none⟩ = some (.slice va0 x.words.length vc0) := (HC.out.below HB3.out hbw).c4
      have d5 : w3.cell? ⟨b, off + j * 11 + 5, none⟩ = some (.string (mtB (K + 1 + 1 + 1 + 1 + (x.words.length : Int)))) := (HC.out.below HB3.out hbw).c5
      have d6 : w3.cell? ⟨b, off + j * 11 + 6, none⟩ = some (.int .i64 (K + 1 + 1 + 1 + 1 + (x.words.length : Int) + 1)) := (HC.out.below HB3.out hbw).c6
      have d7 : w3.cell? ⟨b, off + j * 11 + 7, none⟩ = some (.bool ((K + 1 + 1 + 1 + 1 + (x.words.length : Int) + 1 + 1) % 3 == 0)) := (HC.out.below HB3.out hbw).c7
      have d8 : w3.cell? ⟨b, off + j * 11 + 8, none⟩ = some (.bool ((K + 1 + 1 + 1 + 1 + (x.words.length : Int) + 1 + 1 + 1) % 3 == 0)) := (HC.out.below HB3.out hbw).c8
      have d9 : w3.cell? ⟨b, off + j * 11 + 9, none⟩ = some (.string (mtB (K + 1 + 1 + 1 + 1 + (x.words.length : Int) + 1 + 1 + 1 + 1))) := (HC.out.below HB3.out hbw).c9
      have d10 : w3.cell? ⟨b, off + j * 11 + 10, none⟩ = some (.string (mtB (K + 1 + 1 + 1 + 1 + (x.words.length : Int) + 1 + 1 + 1 + 1 + 1))) := (HC.out.below HB3.out hbw).c10
      have x0 : ∀ X : In (Upo w3), X.w.cell? ⟨b, off + j * 11 + 9, none⟩ = some (.string (mtB (K + 1 + 1 + 1 + 1 + (x.words.length : Int) + 1 + 1 + 1 + 1))) := fun X => Upo.cell X d9
      have xn : Nonempty (In (Upo w3)) := ⟨⟨w3, Below.refl _ _⟩⟩
      have xs := fun (X : In (Upo w3)) => in_self X
      go_wp2
      clear d0 d1 d2 d3 d4 d5 d6 d7 d8 d9 d10
      refine wp_region_class (Upo w3) (by kernel_rfl) (by kernel_rfl) ((Below.refl _ _).drew) ?_
      repeat (go_big_quiet_step (first | (go_at_call 70; rename_i X; exact (markText_any _ _ (by omega)).mono fun _ _ h => ⟨h.1, Upo.next X h.2⟩)))
      refine wpQuiet_nil ?_
      intro w4 hw
      obtain ⟨Y, hY⟩ := hw
      have HB4 : Hid (Below w.heap.size w w4) := HB3.out.trans (Below.mono (show Below w3.heap.size w3 w4 by rw [hY]; exact Y.h) HB3.out.size)
      clear hY Y x0 xs xn HB3
      have d0 : w4.cell? ⟨b, off + j * 11, none⟩ = some (.string (mtB (K))) := (HC.out.below HB4.out hbw).c0
      have d1 : w4.cell? ⟨b, off + j * 11 + 1, none⟩ = some (.int .i64 (K + 1)) := (HC.out.below HB4.out hbw).c1
      have d2 : w4.cell? ⟨b, off + j * 11 + 2, none⟩ = some (.int .i64 (K + 1 + 1)) := (HC.out.below HB4.out hbw).c2
      have d3 : w4.cell? ⟨b, off + j * 11 + 3, none⟩ = some (.int .i64 (K + 1 + 1 + 1)) := (HC.out.below HB4.out hbw).c3
      have d4 : w4.cell? ⟨b, off + j * 11 + 4, none⟩ = some (.slice va0 x.words.length vc0) := (HC.out.below HB4.out hbw).c4
      have d5 : w4.cell? ⟨b, off + j * 11 + 5, none⟩ = some (.string (mtB (K + 1 + 1 + 1 + 1 + (x.words.length : Int)))) := (HC.out.below HB4.out hbw).c5
      have d6 : w4.cell? ⟨b, off + j * 11 + 6, none⟩ = some (.int .i64 (K + 1 + 1 + 1 + 1 + (x.words.length : Int) + 1)) := (HC.out.below HB4.out hbw).c6
      have d7 : w4.cell? ⟨b, off + j * 11 + 7, none⟩ = some (.bool ((K + 1 + 1 + 1 + 1 + (x.words.length : Int) + 1 + 1) % 3 == 0)) := (HC.out.below HB4.out hbw).c7
      have d8 : w4.cell? ⟨b, off + j * 11 + 8, none⟩ = some (.bool ((K + 1 + 1 + 1 + 1 + (x.words.length : Int) + 1 + 1 + 1) % 3 == 0)) := (HC.out.below HB4.out hbw).c8
      have d9 : w4.cell? ⟨b, off + j * 11 + 9, none⟩ = some (.string (mtB (K + 1 + 1 + 1 + 1 + (x.words.length : Int) + 1 + 1 + 1 + 1))) := (HC.out.below HB4.out hbw).c9
      have d10 : w4.cell? ⟨b, off + j * 11 + 10, none⟩ = some (.string (mtB (K + 1 + 1 + 1 + 1 + (x.words.length : Int) + 1 + 1 + 1 + 1 + 1))) := (HC.out.below HB4.out hbw).c10
      have x0 : ∀ X : In (Upo w4), X.w.cell? ⟨b, off + j * 11 + 10, none⟩ = some (.string (mtB (K + 1 + 1 + 1 + 1 + (x.words.length : Int) + 1 + 1 + 1 + 1 + 1))) := fun X => Upo.cell X d10
      have xn : Nonempty (In (Upo w4)) := ⟨⟨w4, Below.refl _ _⟩⟩
      have xs := fun (X : In (Upo w4)) => in_self X
      go_wp2
      clear d0 d1 d2 d3 d4 d5 d6 d7 d8 d9 d10
      refine wp_region_class (Upo w4) (by kernel_rfl) (by kernel_rfl) ((Below.refl _ _).drew) ?_
      repeat (go_big_quiet_step (first | (go_at_call 70; rename_i X; exact (markText_any _ _ (by omega)).mono fun _ _ h => ⟨h.1, Upo.next X h.2⟩)))
      refine wpQuiet_nil ?_
      intro w5 hw
      obtain ⟨Y, hY⟩ := hw
      have HB5 : Hid (Below w.heap.size w w5) := HB4.out.trans (Below.mono (show Below w4.heap.size w4 w5 by rw [hY]; exact Y.h) HB4.out.size)
      clear hY Y x0 xs xn HB4
      have d0 : w5.cell? ⟨b, off + j * 11, none⟩ = some (.string (mtB (K))) := (HC.out.below HB5.out hbw).c0
      have d1 : w5.cell? ⟨b, off + j * 11 + 1, none⟩ = some (.int .i64 (K + 1)) := (HC.out.below HB5.out hbw).c1
      have d2 : w5.cell? ⟨b, off + j * 11 + 2, none⟩ = some (.int .i64 (K + 1 + 1)) := (HC.out.below HB5.out hbw).c2
      have d3 : w5.cell? ⟨b, off + j * 11 + 3, none⟩ = some (.int .i64 (K + 1 + 1 + 1)) := (HC.out.below HB5.out hbw).c3
      have d4 : w5.cell? ⟨b, off + j * 11 + 4, none⟩ = some (.slice va0 x.words.length vc0) := (HC.out.below HB5.out hbw).c4
      have d5 : w5.cell? ⟨b, off + j * 11 + 5, none⟩ = some (.string (mtB (K + 1 + 1 + 1 + 1 + (x.words.length : Int)))) := (HC.out.below HB5.out hbw).c5
      have d6 : w5.cell? ⟨b, off + j * 11 + 6, none⟩ = some (.int .i64 (K + 1 + 1 + 1 + 1 + (x.words.length : Int) + 1)) := (HC.out.below HB5.out hbw).c6
      have d7 : w5.cell? ⟨b, off + j * 11 + 7, none⟩ = some (.bool ((K + 1 + 1 + 1 + 1 + (x.words.length : Int) + 1 + 1) % 3 == 0)) := (HC.out.below HB5.out hbw).c7
      have d8 : w5.cell? ⟨b, off + j * 11 + 8, none⟩ = some (.bool ((K + 1 + 1 + 1 + 1 + (x.words.length : Int) + 1 + 1 + 1) % 3 == 0)) := (HC.out.below HB5.out hbw).c8
      have d9 : w5.cell? ⟨b, off + j * 11 + 9, none⟩ = some (.string (mtB (K + 1 + 1 + 1 + 1 + (x.words.length : Int) + 1 + 1 + 1 + 1))) := (HC.out.below HB5.out hbw).c9
      have d10 : w5.cell? ⟨b, off + j * 11 + 10, none⟩ = some (.string (mtB (K + 1 + 1 + 1 + 1 + (x.words.length : Int) + 1 + 1 + 1 + 1 + 1))) := (HC.out.below HB5.out hbw).c10
      go_wp2
      clear d0 d1 d2 d3 d4 d5 d6 d7 d8 d9 d10
      have HW : Hid (wdFd Xl[j] = 10 + x.words.length) := by unfold Hid; rw [← HXX.out]; rfl
      have HQ : Hid ((K + 1 + 1 + 1 + 1 + (x.words.length : Int) + 1 + 1 + 1 + 1 + 1 + 1 : Int) = k + (posFd Xl (j + 1) : Int)) := by
        have h1 := HP.out
        have h2 := HW.out
        have h3 := HK.out
        unfold Hid
        omega
      go_roundw
      case rel => exact ⟨j + 1, by go_num, congrArg (Value.int .i64) HQ.out, by omega, HB5.out⟩
      case measure => simp [intOf]; omega
    · have e : j = Xl.length := by omega
      subst e
      go_wp2
      go_ret
      exact ⟨rfl, HB0.out⟩
end Go.Proofs.Ytmaagbnjpdijnaa

