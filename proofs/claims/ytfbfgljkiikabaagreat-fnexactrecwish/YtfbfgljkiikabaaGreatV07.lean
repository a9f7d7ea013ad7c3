import Derived.Test.YtfbfgljkiikabaaGreatV03
import Derived.Test.YtfbfgljkiikabaaGreatV06
namespace Go.Proofs.YtfbfgljkiikabaaGreat
open Go.RowKit Go.Deep

def RsOne (b o _c0 _c1 : Nat) (w : World) (x : Rs) : Prop := RsSize x ∧ RsCells w b o x
theorem RsOne.near {b o c0 c1 o1 d0 d1 : Nat} {w w' : World} {x : Rs} (h : RsOne b o c0 c1 w x) (hn : Near b o1 2 d0 d1 w w') (ho : o + 2 ≤ o1 ∨ o1 + 2 ≤ o) (hi : c1 ≤ d0 ∨ d1 ≤ c0) (hb : b < c0 ∨ c1 ≤ b) : RsOne b o c0 c1 w' x := by
  obtain ⟨hs, hc⟩ := h
  obtain ⟨h0, h1⟩ := hc
  have e : ∀ t, t < 2 → w'.cell? ⟨b, o + t, none⟩ = w.cell? ⟨b, o + t, none⟩ := fun t ht => hn.cell _ (by omega)
  have e0 : w'.cell? ⟨b, o, none⟩ = w.cell? ⟨b, o, none⟩ := hn.cell _ (by omega)
  exact ⟨hs, ⟨e0.trans h0, (e 1 (by omega)).trans h1⟩⟩
theorem RsOne.touch {b o c0 c1 : Nat} {lo hi : Nat} {w w' : World} {x : Rs} (h : RsOne b o c0 c1 w x) (ht : Touch lo hi w w') (hlt : b < w.heap.size) (hb : b < lo ∨ hi ≤ b) (_hi : c1 ≤ lo ∨ hi ≤ c0) : RsOne b o c0 c1 w' x := by
  obtain ⟨hs, hc⟩ := h
  obtain ⟨h0, h1⟩ := hc
  exact ⟨hs, ⟨(ht.cell (p := ⟨b, o, none⟩) hlt hb).trans h0, (ht.cell (p := ⟨b, o + 1, none⟩) hlt hb).trans h1⟩⟩
theorem RsOne.below {b o c0 c1 : Nat}  {w w' : World} {x : Rs} (h : RsOne b o c0 c1 w x) (ht : Below w.heap.size w w') (hlt : b < w.heap.size) : RsOne b o c0 c1 w' x := by
  obtain ⟨hs, hc⟩ := h
  obtain ⟨h0, h1⟩ := hc
  exact ⟨hs, ⟨(ht.cell (p := ⟨b, o, none⟩) hlt).trans h0, (ht.cell (p := ⟨b, o + 1, none⟩) hlt).trans h1⟩⟩
structure RsRow (lo hi : Nat) (w : World) (b off n : Nat) (c : Nat → Nat) (X : Nat → Rs) : Prop where
  lt : b < w.heap.size
  low : lo ≤ b
  bc : b < c 0
  bh : b < hi
  mono : ∀ i, i < n → c i ≤ c (i + 1)
  top : c n ≤ hi
  frz : ∀ i, w.frozen? ⟨b, i, none⟩ = false
  row : ∀ i, i < n → RsOne b (off + i * 2) (c i) (c (i + 1)) w (X i)
theorem RsRow.le {lo hi : Nat} {w : World} {b off n : Nat} {c : Nat → Nat} {X : Nat → Rs} (h : RsRow lo hi w b off n c X) {i : Nat} : ∀ {j : Nat}, i ≤ j → j ≤ n → c i ≤ c j := by
  intro j
  induction j with
  | zero => intro hij _; have : i = 0 := by omega
            subst this; exact Nat.le_refl _
  | succ j ih =>
    intro hij hjn
    by_cases e : i = j + 1
    · subst e; exact Nat.le_refl _
    · exact Nat.le_trans (ih (by omega) (by omega)) (h.mono j (by omega))
theorem RsRow.near {lo hi : Nat} {w w' : World} {b off n : Nat} {c : Nat → Nat} {X : Nat → Rs} (h : RsRow lo hi w b off n c X) {j : Nat} (hj : j < n) (hn : Near b (off + j * 2) 2 (c j) (c (j + 1)) w w') {x : Rs} (hx : RsOne b (off + j * 2) (c j) (c (j + 1)) w' x) : RsRow lo hi w' b off n c (fun i => if i = j then x else X i) := by
  refine ⟨Nat.lt_of_lt_of_le h.lt hn.size, h.low, h.bc, h.bh, h.mono, h.top, fun i => (hn.frz i).trans (h.frz i), fun i hi' => ?_⟩
  by_cases e : i = j
  · subst e; rw [if_pos rfl]; exact hx
  · rw [if_neg e]
    have h0 := h.le (Nat.zero_le i) (by omega)
    have hbc := h.bc
    refine (h.row i hi').near hn (by omega) ?_ (by omega)
    rcases Nat.lt_or_ge i j with hij | hij
    · exact Or.inl (h.le (by omega) (by omega))
    · exact Or.inr (h.le (by omega) (by omega))
theorem RsRow.touch {lo hi lo' hi' : Nat} {w w' : World} {b off n : Nat} {c : Nat → Nat} {X : Nat → Rs} (h : RsRow lo hi w b off n c X) (ht : Touch lo' hi' w w') (ho : hi ≤ lo' ∨ hi' ≤ lo) : RsRow lo hi w' b off n c X := by
  have h1 := h.low
  have h2 := h.bh
  have h3 := h.top
  have h4 := h.bc
  refine ⟨Nat.lt_of_lt_of_le h.lt ht.size, h.low, h.bc, h.bh, h.mono, h.top, fun i => (ht.frozen (p := ⟨b, i, none⟩) h.lt (by simp only []; omega)).trans (h.frz i), fun i hi' => ?_⟩
  have h5 := h.le (Nat.zero_le i) (by omega)
  have h6 := h.le (i := i + 1) (j := n) (by omega) (Nat.le_refl _)
  exact (h.row i hi').touch ht h.lt (by omega) (by omega)
theorem RsRow.below {lo hi : Nat} {w w' : World} {b off n : Nat} {c : Nat → Nat} {X : Nat → Rs} (h : RsRow lo hi w b off n c X) (ht : Below w.heap.size w w') : RsRow lo hi w' b off n c X :=
  ⟨Nat.lt_of_lt_of_le h.lt ht.size, h.low, h.bc, h.bh, h.mono, h.top, fun i => (ht.frozen (p := ⟨b, i, none⟩) h.lt).trans (h.frz i), fun i hi' => (h.row i hi').below ht h.lt⟩
theorem RsRow.to {lo hi : Nat} {w : World} {b off n : Nat} {c : Nat → Nat} {X Y : Nat → Rs} (h : RsRow lo hi w b off n c X) (e : ∀ i, i < n → X i = Y i) : RsRow lo hi w b off n c Y :=
  ⟨h.lt, h.low, h.bc, h.bh, h.mono, h.top, h.frz, fun i hi' => e i hi' ▸ h.row i hi'⟩
/-- a list of one's own -/
def RssOwn (lo hi : Nat) (w : World) (v : Value) (Xl : List Rs) : Prop :=
  (∃ (a : Option Addr) (cap : Nat), v = .slice a 0 cap ∧ Xl = []) ∨
  ∃ (b off cap : Nat) (c : Nat → Nat) (X : Nat → Rs), v = .slice (some ⟨b, off, none⟩) Xl.length cap ∧ Xl ≠ [] ∧ Xl.length ≤ maxLen ∧ Xl.length ≤ cap ∧ (∀ i (h : i < Xl.length), X i = Xl[i]) ∧ RsRow lo hi w b off Xl.length c X
theorem RssOwn.touch {lo hi lo' hi' : Nat} {w w' : World} {v : Value} {Xl : List Rs} (h : RssOwn lo hi w v Xl) (ht : Touch lo' hi' w w') (ho : hi ≤ lo' ∨ hi' ≤ lo) : RssOwn lo hi w' v Xl := by
  rcases h with h | ⟨b, off, cap, c, X, h1, h2, h3, h4, h5, h6⟩
  · exact Or.inl h
  · exact Or.inr ⟨b, off, cap, c, X, h1, h2, h3, h4, h5, h6.touch ht ho⟩
theorem RssOwn.below {lo hi : Nat} {w w' : World} {v : Value} {Xl : List Rs} (h : RssOwn lo hi w v Xl) (ht : Below w.heap.size w w') : RssOwn lo hi w' v Xl := by
  rcases h with h | ⟨b, off, cap, c, X, h1, h2, h3, h4, h5, h6⟩
  · exact Or.inl h
  · exact Or.inr ⟨b, off, cap, c, X, h1, h2, h3, h4, h5, h6.below ht⟩
theorem RssOwn.form {lo hi : Nat} {w : World} {v : Value} {Xl : List Rs} (h : RssOwn lo hi w v Xl) : ∃ a cap, v = .slice a Xl.length cap := by
  rcases h with ⟨a, cap, h, rfl⟩ | ⟨b, off, cap, c, X, h1, _⟩
  · exact ⟨a, cap, h⟩
  · exact ⟨_, cap, h1⟩
theorem RssOwn.at {lo hi : Nat} {w : World} {v : Value} {Xl : List Rs} (h : RssOwn lo hi w v Xl) : RssAt lo w v Xl := by
  rcases h with h | ⟨b, off, cap, c, X, h1, h2, h3, h4, h5, h6⟩
  · exact Or.inl h
  · refine Or.inr ⟨b, off, cap, h1, h2, h3, h6.lt, h6.low, h4, fun i hi' => ?_⟩
    have hr := h6.row i hi'
    rw [h5 i hi'] at hr
    obtain ⟨hs, hc⟩ := hr
    exact ⟨hs, hc⟩
/-- marks from k on -/
def mkRs (k : Int) (_x : Rs) : Rs := ⟨k, mtB (k + 1)⟩
def wdRs (_x : Rs) : Nat := 2
def posRs (Xl : List Rs) (i : Nat) : Nat := ((Xl.take i).map wdRs).sum
def mkRss (k : Int) (Xl : List Rs) : List Rs := Xl.mapIdx (fun i x => mkRs (k + (posRs Xl i : Int)) x)
theorem mkRss_len (k : Int) (Xl : List Rs) : (mkRss k Xl).length = Xl.length := by unfold mkRss; simp
theorem mkRss_get (k : Int) (Xl : List Rs) (i : Nat) (h : i < (mkRss k Xl).length) (h' : i < Xl.length) : (mkRss k Xl)[i] = mkRs (k + (posRs Xl i : Int)) Xl[i] := List.getElem_mapIdx (f := fun i x => mkRs (k + (posRs Xl i : Int)) x) (h := h)
theorem posRs_succ {Xl : List Rs} {i : Nat} (h : i < Xl.length) : posRs Xl (i + 1) = posRs Xl i + wdRs Xl[i] := by
  unfold posRs
  rw [List.take_succ_eq_append_getElem h, List.map_append, List.sum_append]
  simp
theorem posRs_le {Xl : List Rs} (_hn : RssSmall Xl) : ∀ {i : Nat}, i ≤ Xl.length → posRs Xl i ≤ i * 3000000 := by
  intro i
  induction i with
  | zero => intro _; simp [posRs]
  | succ i ih =>
    intro hi'
    have h1 := ih (by omega)
    rw [posRs_succ (by omega)]
    have h2 : wdRs Xl[i] ≤ 3000000 := by
      unfold wdRs
      omega
    omega
theorem posRs_all {Xl : List Rs} {i : Nat} (h : Xl.length ≤ i) : posRs Xl i = posRs Xl Xl.length := by
  unfold posRs
  rw [List.take_of_length_le h, List.take_of_length_le (Nat.le_refl _)]
structure RsSt (wr : World) (b o c0 c1 : Nat) (v : World) (y : Rs) : Prop where
  near : Near b o 2 c0 c1 wr v
  bc : b < c0
  cells : RsCells v b o y
  frz : ∀ i, v.frozen? ⟨b, i, none⟩ = false
  lt : b < v.heap.size
theorem RsSt.below {wr : World} {b o c0 c1 : Nat} {v v' : World} {y : Rs} (h : RsSt wr b o c0 c1 v y) (hb : Below v.heap.size v v') : RsSt wr b o c0 c1 v' y :=
  ⟨h.near.trans (Near.below hb h.lt), h.bc, h.cells.below hb h.lt, fun i => (hb.frozen (p := ⟨b, i, none⟩) h.lt).trans (h.frz i), Nat.lt_of_lt_of_le h.lt hb.size⟩
theorem RsSt.s0 {wr : World} {b o c0 c1 : Nat} {v : World} {y : Rs} (h : RsSt wr b o c0 c1 v y) (u : Int) : RsSt wr b o c0 c1 (v.setCell ⟨b, o, none⟩ (.int .i64 u)) { y with ba := u } := by
  obtain ⟨h0, h1⟩ := h.cells
  have ht : Touch b (b + 1) v (v.setCell ⟨b, o, none⟩ (.int .i64 u)) := Touch.setCell _ _ _ _ _ ⟨Nat.le_refl _, by simp only []; omega⟩
  have hbc := h.bc
  exact ⟨h.near.trans (Near.set _ _ _ _ _ _ _ _ (by omega) (by omega)), h.bc, ⟨World.cell?_setCell_same' _ _ _ (by rw [h0]; rfl), (cne (by omega)).trans h1⟩, fun i => by rw [World.frozen?_setCell]; exact h.frz i, by simpa [World.setCell] using h.lt⟩
theorem RsSt.s1 {wr : World} {b o c0 c1 : Nat} {v : World} {y : Rs} (h : RsSt wr b o c0 c1 v y) (u : ByteArray) : RsSt wr b o c0 c1 (v.setCell ⟨b, o + 1, none⟩ (.string u)) { y with tx := u } := by
  obtain ⟨h0, h1⟩ := h.cells
  have ht : Touch b (b + 1) v (v.setCell ⟨b, o + 1, none⟩ (.string u)) := Touch.setCell _ _ _ _ _ ⟨Nat.le_refl _, by simp only []; omega⟩
  have hbc := h.bc
  exact ⟨h.near.trans (Near.set _ _ _ _ _ _ _ _ (by omega) (by omega)), h.bc, ⟨(cne (by omega)).trans h0, World.cell?_setCell_same' _ _ _ (by rw [h1]; rfl)⟩, fun i => by rw [World.frozen?_setCell]; exact h.frz i, by simpa [World.setCell] using h.lt⟩
end Go.Proofs.YtfbfgljkiikabaaGreat
namespace Go.Proofs.YtfbfgljkiikabaaGreat
open Go.RowKit Go.Deep

structure RmSize (x : Rm) : Prop where
  s0 : x.tx.size ≤ maxLen
structure RmCells (w : World) (b o : Nat) (x : Rm) (vv0 : Value) : Prop where
  c0 : w.cell? ⟨b, o, none⟩ = some (.int .i64 x.kd)
  c1 : w.cell? ⟨b, o + 1, none⟩ = some (.int .i64 x.fr)
  c2 : w.cell? ⟨b, o + 2, none⟩ = some (.int .i64 x.tt)
  c3 : w.cell? ⟨b, o + 3, none⟩ = some (.int .i64 x.ba)
  c4 : w.cell? ⟨b, o + 4, none⟩ = some (.int .i64 x.ix)
  c5 : w.cell? ⟨b, o + 5, none⟩ = some (.int .i64 x.kn)
  c6 : w.cell? ⟨b, o + 6, none⟩ = some (.string x.tx)
  c7 : w.cell? ⟨b, o + 7, none⟩ = some vv0
theorem RmCells.below {w w' : World} {b o : Nat} {x : Rm} {vv0 : Value} (h : RmCells w b o x vv0) {m : Nat} (hb : Below m w w') (hlt : b < m) : RmCells w' b o x vv0 := by
  have e : ∀ o, w'.cell? ⟨b, o, none⟩ = w.cell? ⟨b, o, none⟩ := fun o => hb.cell (p := ⟨b, o, none⟩) hlt
  exact ⟨by rw [e]; exact h.c0, by rw [e]; exact h.c1, by rw [e]; exact h.c2, by rw [e]; exact h.c3, by rw [e]; exact h.c4, by rw [e]; exact h.c5, by rw [e]; exact h.c6, by rw [e]; exact h.c7⟩
theorem RmCells.rng {w : World} {b o : Nat} {x : Rm} {a : Option Addr} {k : Nat} (h : RmCells w b o x (.slice a x.sl.length k)) : w.rangeAt b o (rmL x a k) := fun j v hv => by
  match j, hv with
  | 0, hv => cases hv; exact h.c0
  | 1, hv => cases hv; exact h.c1
  | 2, hv => cases hv; exact h.c2
  | 3, hv => cases hv; exact h.c3
  | 4, hv => cases hv; exact h.c4
  | 5, hv => cases hv; exact h.c5
  | 6, hv => cases hv; exact h.c6
  | 7, hv => cases hv; exact h.c7
theorem RssOwn.near {b o n d0 d1 lo hi : Nat} {w w' : World} {v : Value} {Xl : List Rs} (h : RssOwn lo hi w v Xl) (hn : Near b o n d0 d1 w w') (hi' : hi ≤ d0 ∨ d1 ≤ lo) (hb : b < lo ∨ hi ≤ b) : RssOwn lo hi w' v Xl := by
  rcases h with h | ⟨b', off, cap, c, X, h1, h2, h3, h4, h5, h6⟩
  · exact Or.inl h
  · refine Or.inr ⟨b', off, cap, c, X, h1, h2, h3, h4, h5, ?_⟩
    have k1 := h6.low
    have k2 := h6.bh
    have hbk : w'.heap[b']? = w.heap[b']? := hn.block b' h6.lt (by omega) (by omega)
    have e : ∀ i, w'.cell? ⟨b', i, none⟩ = w.cell? ⟨b', i, none⟩ := fun i => World.cell?_of_block hbk
    refine ⟨Nat.lt_of_lt_of_le h6.lt hn.size, h6.low, h6.bc, h6.bh, h6.mono, h6.top, fun i => (World.frozen?_of_block hbk).trans (h6.frz i), fun i hi'' => ?_⟩
    obtain ⟨hs, hc⟩ := h6.row i hi''
    obtain ⟨q0, q1⟩ := hc
    exact ⟨hs, (e _).trans q0, (e _).trans q1⟩
theorem posRs_two (L : List Rs) : ∀ i, i ≤ L.length → posRs L i = 2 * i := by
  intro i
  induction i with
  | zero => intro _; simp [posRs]
  | succ i ih =>
    intro h
    rw [posRs_succ (by omega), ih (by omega)]
    unfold wdRs
    omega
theorem posRs_all2 (L : List Rs) : posRs L L.length = 2 * L.length := posRs_two L _ (Nat.le_refl _)
def RmOne (b o c0 c1 : Nat) (w : World) (x : Rm) : Prop := RmSize x ∧ ∃ (vv0 : Value), c0 ≤ c1 ∧ RmCells w b o x vv0 ∧ RssOwn c0 c1 w vv0 x.sl
theorem RmOne.near {b o c0 c1 o1 d0 d1 : Nat} {w w' : World} {x : Rm} (h : RmOne b o c0 c1 w x) (hn : Near b o1 8 d0 d1 w w') (ho : o + 8 ≤ o1 ∨ o1 + 8 ≤ o) (hi : c1 ≤ d0 ∨ d1 ≤ c0) (hb : b < c0 ∨ c1 ≤ b) : RmOne b o c0 c1 w' x := by
  obtain ⟨hs, vv0, q0, hc, l0⟩ := h
  obtain ⟨h0, h1, h2, h3, h4, h5, h6, h7⟩ := hc
  have e : ∀ t, t < 8 → w'.cell? ⟨b, o + t, none⟩ = w.cell? ⟨b, o + t, none⟩ := fun t ht => hn.cell _ (by omega)
  have e0 : w'.cell? ⟨b, o, none⟩ = w.cell? ⟨b, o, none⟩ := hn.cell _ (by omega)
  exact ⟨hs, vv0, q0, ⟨e0.trans h0, (e 1 (by omega)).trans h1, (e 2 (by omega)).trans h2, (e 3 (by omega)).trans h3, (e 4 (by omega)).trans h4, (e 5 (by omega)).trans h5, (e 6 (by omega)).trans h6, (e 7 (by omega)).trans h7⟩, l0.near hn (by omega) (by omega)⟩
theorem RmOne.touch {b o c0 c1 : Nat} {lo hi : Nat} {w w' : World} {x : Rm} (h : RmOne b o c0 c1 w x) (ht : Touch lo hi w w') (hlt : b < w.heap.size) (hb : b < lo ∨ hi ≤ b) (hi' : c1 ≤ lo ∨ hi ≤ c0) : RmOne b o c0 c1 w' x := by
  obtain ⟨hs, vv0, q0, hc, l0⟩ := h
  obtain ⟨h0, h1, h2, h3, h4, h5, h6, h7⟩ := hc
  exact ⟨hs, vv0, q0, ⟨(ht.cell (p := ⟨b, o, none⟩) hlt hb).trans h0, (ht.cell (p := ⟨b, o + 1, none⟩) hlt hb).trans h1, (ht.cell (p := ⟨b, o + 2, none⟩) hlt hb).trans h2, (ht.cell (p := ⟨b, o + 3, none⟩) hlt hb).trans h3, (ht.cell (p := ⟨b, o + 4, none⟩) hlt hb).trans h4, (ht.cell (p := ⟨b, o + 5, none⟩) hlt hb).trans h5, (ht.cell (p := ⟨b, o + 6, none⟩) hlt hb).trans h6, (ht.cell (p := ⟨b, o + 7, none⟩) hlt hb).trans h7⟩, l0.touch ht (by omega)⟩
theorem RmOne.below {b o c0 c1 : Nat}  {w w' : World} {x : Rm} (h : RmOne b o c0 c1 w x) (ht : Below w.heap.size w w') (hlt : b < w.heap.size) : RmOne b o c0 c1 w' x := by
  obtain ⟨hs, vv0, q0, hc, l0⟩ := h
  obtain ⟨h0, h1, h2, h3, h4, h5, h6, h7⟩ := hc
  exact ⟨hs, vv0, q0, ⟨(ht.cell (p := ⟨b, o, none⟩) hlt).trans h0, (ht.cell (p := ⟨b, o + 1, none⟩) hlt).trans h1, (ht.cell (p := ⟨b, o + 2, none⟩) hlt).trans h2, (ht.cell (p := ⟨b, o + 3, none⟩) hlt).trans h3, (ht.cell (p := ⟨b, o + 4, none⟩) hlt).trans h4, (ht.cell (p := ⟨b, o + 5, none⟩) hlt).trans h5, (ht.cell (p := ⟨b, o + 6, none⟩) hlt).trans h6, (ht.cell (p := ⟨b, o + 7, none⟩) hlt).trans h7⟩, l0.below ht⟩
structure RmRow (lo hi : Nat) (w : World) (b off n : Nat) (c : Nat → Nat × Nat) (X : Nat → Rm) : Prop where
  lt : b < w.heap.size
  low : lo ≤ b
  bh : b < hi
  seg : ∀ i, i < n → lo ≤ (c i).1 ∧ (c i).2 ≤ hi ∧ (b < (c i).1 ∨ (c i).2 ≤ b)
  ap : ∀ i j, i < n → j < n → i ≠ j → (c i).2 ≤ (c j).1 ∨ (c j).2 ≤ (c i).1
  frz : ∀ i, w.frozen? ⟨b, i, none⟩ = false
  row : ∀ i, i < n → RmOne b (off + i * 8) (c i).1 (c i).2 w (X i)
theorem RmRow.near {lo hi : Nat} {w w' : World} {b off n : Nat} {c : Nat → Nat × Nat} {X : Nat → Rm} (h : RmRow lo hi w b off n c X) {j : Nat} (hj : j < n) (hn : Near b (off + j * 8) 8 (c j).1 (c j).2 w w') {x : Rm} (hx : RmOne b (off + j * 8) (c j).1 (c j).2 w' x) : RmRow lo hi w' b off n c (fun i => if i = j then x else X i) := by
  refine ⟨Nat.lt_of_lt_of_le h.lt hn.size, h.low, h.bh, h.seg, h.ap, fun i => (hn.frz i).trans (h.frz i), fun i hi' => ?_⟩
  by_cases e : i = j
  · subst e; rw [if_pos rfl]; exact hx
  · rw [if_neg e]
    refine (h.row i hi').near hn (by omega) ?_ (h.seg i hi').2.2
    exact h.ap i j hi' hj e
theorem RmRow.touch {lo hi lo' hi' : Nat} {w w' : World} {b off n : Nat} {c : Nat → Nat × Nat} {X : Nat → Rm} (h : RmRow lo hi w b off n c X) (ht : Touch lo' hi' w w') (ho : hi ≤ lo' ∨ hi' ≤ lo) : RmRow lo hi w' b off n c X := by
  have h1 := h.low
  have h2 := h.bh
  refine ⟨Nat.lt_of_lt_of_le h.lt ht.size, h.low, h.bh, h.seg, h.ap, fun i => (ht.frozen (p := ⟨b, i, none⟩) h.lt (by simp only []; omega)).trans (h.frz i), fun i hi' => ?_⟩
  have h5 := h.seg i hi'
  exact (h.row i hi').touch ht h.lt (by omega) (by omega)
theorem RmRow.below {lo hi : Nat} {w w' : World} {b off n : Nat} {c : Nat → Nat × Nat} {X : Nat → Rm} (h : RmRow lo hi w b off n c X) (ht : Below w.heap.size w w') : RmRow lo hi w' b off n c X :=
  ⟨Nat.lt_of_lt_of_le h.lt ht.size, h.low, h.bh, h.seg, h.ap, fun i => (ht.frozen (p := ⟨b, i, none⟩) h.lt).trans (h.frz i), fun i hi' => (h.row i hi').below ht h.lt⟩
theorem RmRow.to {lo hi : Nat} {w : World} {b off n : Nat} {c : Nat → Nat × Nat} {X Y : Nat → Rm} (h : RmRow lo hi w b off n c X) (e : ∀ i, i < n → X i = Y i) : RmRow lo hi w b off n c Y :=
  ⟨h.lt, h.low, h.bh, h.seg, h.ap, h.frz, fun i hi' => e i hi' ▸ h.row i hi'⟩
/-- a list of one's own -/
def RmsOwn (lo hi : Nat) (w : World) (v : Value) (Xl : List Rm) : Prop :=
  (∃ (a : Option Addr) (cap : Nat), v = .slice a 0 cap ∧ Xl = []) ∨
  ∃ (b off cap : Nat) (c : Nat → Nat × Nat) (X : Nat → Rm), v = .slice (some ⟨b, off, none⟩) Xl.length cap ∧ Xl ≠ [] ∧ Xl.length ≤ maxLen ∧ Xl.length ≤ cap ∧ (∀ i (h : i < Xl.length), X i = Xl[i]) ∧ RmRow lo hi w b off Xl.length c X
theorem RmsOwn.touch {lo hi lo' hi' : Nat} {w w' : World} {v : Value} {Xl : List Rm} (h : RmsOwn lo hi w v Xl) (ht : Touch lo' hi' w w') (ho : hi ≤ lo' ∨ hi' ≤ lo) : RmsOwn lo hi w' v Xl := by
  rcases h with h | ⟨b, off, cap, c, X, h1, h2, h3, h4, h5, h6⟩
  · exact Or.inl h
  · exact Or.inr ⟨b, off, cap, c, X, h1, h2, h3, h4, h5, h6.touch ht ho⟩
theorem RmsOwn.below {lo hi : Nat} {w w' : World} {v : Value} {Xl : List Rm} (h : RmsOwn lo hi w v Xl) (ht : Below w.heap.size w w') : RmsOwn lo hi w' v Xl := by
  rcases h with h | ⟨b, off, cap, c, X, h1, h2, h3, h4, h5, h6⟩
  · exact Or.inl h
  · exact Or.inr ⟨b, off, cap, c, X, h1, h2, h3, h4, h5, h6.below ht⟩
theorem RmsOwn.form {lo hi : Nat} {w : World} {v : Value} {Xl : List Rm} (h : RmsOwn lo hi w v Xl) : ∃ a cap, v = .slice a Xl.length cap := by
  rcases h with ⟨a, cap, h, rfl⟩ | ⟨b, off, cap, c, X, h1, _⟩
  · exact ⟨a, cap, h⟩
  · exact ⟨_, cap, h1⟩
theorem RmsOwn.at {lo hi : Nat} {w : World} {v : Value} {Xl : List Rm} (h : RmsOwn lo hi w v Xl) : RmsAt lo w v Xl := by
  rcases h with h | ⟨b, off, cap, c, X, h1, h2, h3, h4, h5, h6⟩
  · exact Or.inl h
  · refine Or.inr ⟨b, off, cap, h1, h2, h3, h6.lt, h6.low, h4, fun i hi' => ?_⟩
    have hr := h6.row i hi'
    have g0 := h6.seg i hi'
    rw [h5 i hi'] at hr
    obtain ⟨hs, vv0, q0, hc, l0⟩ := hr
    obtain ⟨a0, k0, rfl⟩ := l0.form
    exact ⟨_, hc.rng, a0, k0, rfl, l0.at.mono (by omega), hs.s0⟩
/-- marks from k on -/
def mkRm (k : Int) (x : Rm) : Rm := ⟨k, k + 1, k + 1 + 1, k + 1 + 1 + 1, k + 1 + 1 + 1 + 1, k + 1 + 1 + 1 + 1 + 1, mtB (k + 1 + 1 + 1 + 1 + 1 + 1), mkRss (k + 1 + 1 + 1 + 1 + 1 + 1 + 1) x.sl⟩
def wdRm (x : Rm) : Nat := 7 + 2 * x.sl.length
def posRm (Xl : List Rm) (i : Nat) : Nat := ((Xl.take i).map wdRm).sum
def mkRms (k : Int) (Xl : List Rm) : List Rm := Xl.mapIdx (fun i x => mkRm (k + (posRm Xl i : Int)) x)
theorem mkRms_len (k : Int) (Xl : List Rm) : (mkRms k Xl).length = Xl.length := by unfold mkRms; simp
theorem mkRms_get (k : Int) (Xl : List Rm) (i : Nat) (h : i < (mkRms k Xl).length) (h' : i < Xl.length) : (mkRms k Xl)[i] = mkRm (k + (posRm Xl i : Int)) Xl[i] := List.getElem_mapIdx (f := fun i x => mkRm (k + (posRm Xl i : Int)) x) (h := h)
theorem posRm_succ {Xl : List Rm} {i : Nat} (h : i < Xl.length) : posRm Xl (i + 1) = posRm Xl i + wdRm Xl[i] := by
  unfold posRm
  rw [List.take_succ_eq_append_getElem h, List.map_append, List.sum_append]
  simp
theorem posRm_le {Xl : List Rm} (hn : RmsSmall Xl) : ∀ {i : Nat}, i ≤ Xl.length → posRm Xl i ≤ i * 3000000 := by
  intro i
  induction i with
  | zero => intro _; simp [posRm]
  | succ i ih =>
    intro hi'
    have h1 := ih (by omega)
    rw [posRm_succ (by omega)]
    have h2 : wdRm Xl[i] ≤ 3000000 := by
      have hsm := (hn.2 i (by omega)).1
      unfold wdRm
      omega
    omega
theorem posRm_all {Xl : List Rm} {i : Nat} (h : Xl.length ≤ i) : posRm Xl i = posRm Xl Xl.length := by
  unfold posRm
  rw [List.take_of_length_le h, List.take_of_length_le (Nat.le_refl _)]
structure RmSt (wr : World) (b o c0 c1 : Nat) (vv0 : Value) (v : World) (y : Rm) : Prop where
  near : Near b o 8 c0 c1 wr v
  bc : b < c0 ∨ c1 ≤ b
  q0 : c0 ≤ c1
  cells : RmCells v b o y vv0
  l0 : RssOwn c0 c1 v vv0 y.sl
  frz : ∀ i, v.frozen? ⟨b, i, none⟩ = false
  lt : b < v.heap.size
theorem RmSt.below {wr : World} {b o c0 c1 : Nat} {vv0 : Value} {v v' : World} {y : Rm} (h : RmSt wr b o c0 c1 vv0 v y) (hb : Below v.heap.size v v') : RmSt wr b o c0 c1 vv0 v' y :=
  ⟨h.near.trans (Near.below hb h.lt), h.bc, h.q0, h.cells.below hb h.lt, h.l0.below hb, fun i => (hb.frozen (p := ⟨b, i, none⟩) h.lt).trans (h.frz i), Nat.lt_of_lt_of_le h.lt hb.size⟩
theorem RmSt.s0 {wr : World} {b o c0 c1 : Nat} {vv0 : Value} {v : World} {y : Rm} (h : RmSt wr b o c0 c1 vv0 v y) (u : Int) : RmSt wr b o c0 c1 vv0 (v.setCell ⟨b, o, none⟩ (.int .i64 u)) { y with kd := u } := by
  obtain ⟨h0, h1, h2, h3, h4, h5, h6, h7⟩ := h.cells
  have ht : Touch b (b + 1) v (v.setCell ⟨b, o, none⟩ (.int .i64 u)) := Touch.setCell _ _ _ _ _ ⟨Nat.le_refl _, by simp only []; omega⟩
  have hbc := h.bc
  have hq0 := h.q0
  exact ⟨h.near.trans (Near.set _ _ _ _ _ _ _ _ (by omega) (by omega)), h.bc, h.q0, ⟨World.cell?_setCell_same' _ _ _ (by rw [h0]; rfl), (cne (by omega)).trans h1, (cne (by omega)).trans h2, (cne (by omega)).trans h3, (cne (by omega)).trans h4, (cne (by omega)).trans h5, (cne (by omega)).trans h6, (cne (by omega)).trans h7⟩, h.l0.touch ht (by omega), fun i => by rw [World.frozen?_setCell]; exact h.frz i, by simpa [World.setCell] using h.lt⟩
theorem RmSt.s1 {wr : World} {b o c0 c1 : Nat} {vv0 : Value} {v : World} {y : Rm} (h : RmSt wr b o c0 c1 vv0 v y) (u : Int) : RmSt wr b o c0 c1 vv0 (v.setCell ⟨b, o + 1, none⟩ (.int .i64 u)) { y with fr := u } := by
  obtain ⟨h0, h1, h2, h3, h4, h5, h6, h7⟩ := h.cells
  have ht : Touch b (b + 1) v (v.setCell ⟨b, o + 1, none⟩ (.int .i64 u)) := Touch.setCell _ _ _ _ _ ⟨Nat.le_refl _, by simp only []; omega⟩
  have hbc := h.bc
  have hq0 := h.q0
  exact ⟨h.near.trans (Near.set _ _ _ _ _ _ _ _ (by omega) (by omega)), h.bc, h.q0, ⟨(cne (by omega)).trans h0, World.cell?_setCell_same' _ _ _ (by rw [h1]; rfl), (cne (by omega)).trans h2, (cne (by omega)).trans h3, (cne (by omega)).trans h4, (cne (by omega)).trans h5, (cne (by omega)).trans h6, (cne (by omega)).trans h7⟩, h.l0.touch ht (by omega), fun i => by rw [World.frozen?_setCell]; exact h.frz i, by simpa [World.setCell] using h.lt⟩
theorem RmSt.s2 {wr : World} {b o c0 c1 : Nat} {vv0 : Value} {v : World} {y : Rm} (h : RmSt wr b o c0 c1 vv0 v y) (u : Int) : RmSt wr b o c0 c1 vv0 (v.setCell ⟨b, o + 2, none⟩ (.int .i64 u)) { y with tt := u } := by
  obtain ⟨h0, h1, h2, h3, h4, h5, h6, h7⟩ := h.cells
  have ht : Touch b (b + 1) v (v.setCell ⟨b, o + 2, none⟩ (.int .i64 u)) := Touch.setCell _ _ _ _ _ ⟨Nat.le_refl _, by simp only []; omega⟩
  have hbc := h.bc
  have hq0 := h.q0
  exact ⟨h.near.trans (Near.set _ _ _ _ _ _ _ _ (by omega) (by omega)), h.bc, h.q0, ⟨(cne (by omega)).trans h0, (cne (by omega)).trans h1, World.cell?_setCell_same' _ _ _ (by rw [h2]; rfl), (cne (by omega)).trans h3, (cne (by omega)).trans h4, (cne (by omega)).trans h5, (cne (by omega)).trans h6, (cne (by omega)).trans h7⟩, h.l0.touch ht (by omega), fun i => by rw [World.frozen?_setCell]; exact h.frz i, by simpa [World.setCell] using h.lt⟩
theorem RmSt.s3 {wr : World} {b o c0 c1 : Nat} {vv0 : Value} {v : World} {y : Rm} (h : RmSt wr b o c0 c1 vv0 v y) (u : Int) : RmSt wr b o c0 c1 vv0 (v.setCell ⟨b, o + 3, none⟩ (.int .i64 u)) { y with ba := u } := by
  obtain ⟨h0, h1, h2, h3, h4, h5, h6, h7⟩ := h.cells
  have ht : Touch b (b + 1) v (v.setCell ⟨b, o + 3, none⟩ (.int .i64 u)) := Touch.setCell _ _ _ _ _ ⟨Nat.le_refl _, by simp only []; omega⟩
  have hbc := h.bc
  have hq0 := h.q0
  exact ⟨h.near.trans (Near.set _ _ _ _ _ _ _ _ (by omega) (by omega)), h.bc, h.q0, ⟨(cne (by omega)).trans h0, (cne (by omega)).trans h1, (cne (by omega)).trans h2, World.cell?_setCell_same' _ _ _ (by rw [h3]; rfl), (cne (by omega)).trans h4, (cne (by omega)).trans h5, (cne (by omega)).trans h6, (cne (by omega)).trans h7⟩, h.l0.touch ht (by omega), fun i => by rw [World.frozen?_setCell]; exact h.frz i, by simpa [World.setCell] using h.lt⟩
theorem RmSt.s4 {wr : World} {b o c0 c1 : Nat} {vv0 : Value} {v : World} {y : Rm} (h : RmSt wr b o c0 c1 vv0 v y) (u : Int) : RmSt wr b o c0 c1 vv0 (v.setCell ⟨b, o + 4, none⟩ (.int .i64 u)) { y with ix := u } := by
  obtain ⟨h0, h1, h2, h3, h4, h5, h6, h7⟩ := h.cells
  have ht : Touch b (b + 1) v (v.setCell ⟨b, o + 4, none⟩ (.int .i64 u)) := Touch.setCell _ _ _ _ _ ⟨Nat.le_refl _, by simp only []; omega⟩
  have hbc := h.bc
  have hq0 := h.q0
  exact ⟨h.near.trans (Near.set _ _ _ _ _ _ _ _ (by omega) (by omega)), h.bc, h.q0, ⟨(cne (by omega)).trans h0, (cne (by omega)).trans h1, (cne (by omega)).trans h2, (cne (by omega)).trans h3, World.cell?_setCell_same' _ _ _ (by rw [h4]; rfl), (cne (by omega)).trans h5, (cne (by omega)).trans h6, (cne (by omega)).trans h7⟩, h.l0.touch ht (by omega), fun i => by rw [World.frozen?_setCell]; exact h.frz i, by simpa [World.setCell] using h.lt⟩
theorem RmSt.s5 {wr : World} {b o c0 c1 : Nat} {vv0 : Value} {v : World} {y : Rm} (h : RmSt wr b o c0 c1 vv0 v y) (u : Int) : RmSt wr b o c0 c1 vv0 (v.setCell ⟨b, o + 5, none⟩ (.int .i64 u)) { y with kn := u } := by
  obtain ⟨h0, h1, h2, h3, h4, h5, h6, h7⟩ := h.cells
  have ht : Touch b (b + 1) v (v.setCell ⟨b, o + 5, none⟩ (.int .i64 u)) := Touch.setCell _ _ _ _ _ ⟨Nat.le_refl _, by simp only []; omega⟩
  have hbc := h.bc
  have hq0 := h.q0
  exact ⟨h.near.trans (Near.set _ _ _ _ _ _ _ _ (by omega) (by omega)), h.bc, h.q0, ⟨(cne (by omega)).trans h0, (cne (by omega)).trans h1, (cne (by omega)).trans h2, (cne (by omega)).trans h3, (cne (by omega)).trans h4, World.cell?_setCell_same' _ _ _ (by rw [h5]; rfl), (cne (by omega)).trans h6, (cne (by omega)).trans h7⟩, h.l0.touch ht (by omega), fun i => by rw [World.frozen?_setCell]; exact h.frz i, by simpa [World.setCell] using h.lt⟩
theorem RmSt.s6 {wr : World} {b o c0 c1 : Nat} {vv0 : Value} {v : World} {y : Rm} (h : RmSt wr b o c0 c1 vv0 v y) (u : ByteArray) : RmSt wr b o c0 c1 vv0 (v.setCell ⟨b, o + 6, none⟩ (.string u)) { y with tx := u } := by
  obtain ⟨h0, h1, h2, h3, h4, h5, h6, h7⟩ := h.cells
  have ht : Touch b (b + 1) v (v.setCell ⟨b, o + 6, none⟩ (.string u)) := Touch.setCell _ _ _ _ _ ⟨Nat.le_refl _, by simp only []; omega⟩
  have hbc := h.bc
  have hq0 := h.q0
  exact ⟨h.near.trans (Near.set _ _ _ _ _ _ _ _ (by omega) (by omega)), h.bc, h.q0, ⟨(cne (by omega)).trans h0, (cne (by omega)).trans h1, (cne (by omega)).trans h2, (cne (by omega)).trans h3, (cne (by omega)).trans h4, (cne (by omega)).trans h5, World.cell?_setCell_same' _ _ _ (by rw [h6]; rfl), (cne (by omega)).trans h7⟩, h.l0.touch ht (by omega), fun i => by rw [World.frozen?_setCell]; exact h.frz i, by simpa [World.setCell] using h.lt⟩
theorem RmSt.m0' {wr : World} {b o c0 c1 : Nat} {vv0 : Value} {v v' : World} {y : Rm} (h : RmSt wr b o c0 c1 vv0 v y) (ht : Touch c0 c1 v v') {L : List Rs} (hl : RssOwn c0 c1 v' vv0 L) : RmSt wr b o c0 c1 vv0 v' { y with sl := L } := by
  obtain ⟨h0, h1, h2, h3, h4, h5, h6, h7⟩ := h.cells
  have hbc := h.bc
  have hq0 := h.q0
  have hlt := h.lt
  have e : ∀ i, v'.cell? ⟨b, i, none⟩ = v.cell? ⟨b, i, none⟩ := fun i => ht.cell (p := ⟨b, i, none⟩) h.lt (by simp only []; omega)
  exact ⟨h.near.trans (Near.touch ht h.lt (by omega) (by omega) (by omega)), h.bc, h.q0, ⟨(e _).trans h0, (e _).trans h1, (e _).trans h2, (e _).trans h3, (e _).trans h4, (e _).trans h5, (e _).trans h6, (e _).trans h7⟩, hl, fun i => (ht.frozen (p := ⟨b, i, none⟩) h.lt (by simp only []; omega)).trans (h.frz i), Nat.lt_of_lt_of_le h.lt ht.size⟩
end Go.Proofs.YtfbfgljkiikabaaGreat
namespace Go.Proofs.YtfbfgljkiikabaaGreat
open Go.RowKit Go.Deep

/-! rows that grow in a block of the call's own: things by their cells (f x, n of them), in a block of [lo, hi) -/
structure FR {X : Type} (f : X → List Value) (n : Nat) (w : World) (lo hi g cap : Nat) (L : List X) : Prop where
  bs : lo ≤ g
  up : g < hi
  lt : g < w.heap.size
  le : L.length ≤ cap
  mx : cap ≤ maxLen
  th : ∀ j, j < cap * n → (w.cell? ⟨g, j, none⟩).isSome = true
  fz : ∀ j, w.frozen? ⟨g, j, none⟩ = false
  rg : w.rangeAt g 0 (flatV f L)
theorem FR.below {X : Type} {f : X → List Value} {n : Nat} {w w' : World} {lo hi g cap : Nat} {L : List X} (h : FR f n w lo hi g cap L) (hb : Below w.heap.size w w') : FR f n w' lo hi g cap L :=
  ⟨h.bs, h.up, Nat.lt_of_lt_of_le h.lt hb.size, h.le, h.mx, fun j hj => by rw [hb.cell (p := ⟨g, j, none⟩) h.lt]; exact h.th j hj, fun j => by rw [hb.frozen (p := ⟨g, j, none⟩) h.lt]; exact h.fz j, rng_below h.rg hb h.lt⟩
theorem FR.touch {X : Type} {f : X → List Value} {n : Nat} {w w' : World} {lo hi g cap lo' hi' : Nat} {L : List X} (h : FR f n w lo hi g cap L) (ht : Touch lo' hi' w w') (ho : g < lo' ∨ hi' ≤ g) : FR f n w' lo hi g cap L :=
  ⟨h.bs, h.up, Nat.lt_of_lt_of_le h.lt ht.size, h.le, h.mx, fun j hj => by rw [ht.cell (p := ⟨g, j, none⟩) h.lt ho]; exact h.th j hj, fun j => by rw [ht.frozen (p := ⟨g, j, none⟩) h.lt ho]; exact h.fz j, fun j v hv => by rw [ht.cell (p := ⟨g, 0 + j, none⟩) h.lt ho]; exact h.rg j v hv⟩
theorem FR.wide {X : Type} {f : X → List Value} {n : Nat} {w : World} {lo hi g cap lo' hi' : Nat} {L : List X} (h : FR f n w lo hi g cap L) (h1 : lo' ≤ lo) (h2 : hi ≤ hi') : FR f n w lo' hi' g cap L :=
  ⟨Nat.le_trans h1 h.bs, Nat.lt_of_lt_of_le h.up h2, h.lt, h.le, h.mx, h.th, h.fz, h.rg⟩
def FRow {X : Type} (f : X → List Value) (n : Nat) (w : World) (lo hi : Nat) (v : Value) (L : List X) : Prop := ∃ g cap, v = .slice (some ⟨g, 0, none⟩) L.length cap ∧ FR f n w lo hi g cap L
theorem FRow.below {X : Type} {f : X → List Value} {n : Nat} {w w' : World} {lo hi : Nat} {v : Value} {L : List X} (h : FRow f n w lo hi v L) (hb : Below w.heap.size w w') : FRow f n w' lo hi v L := by
  obtain ⟨g, cap, h1, h2⟩ := h
  exact ⟨g, cap, h1, h2.below hb⟩
theorem FRow.touch {X : Type} {f : X → List Value} {n : Nat} {w w' : World} {lo hi lo' hi' : Nat} {v : Value} {L : List X} (h : FRow f n w lo hi v L) (ht : Touch lo' hi' w w') (ho : hi ≤ lo' ∨ hi' ≤ lo) : FRow f n w' lo hi v L := by
  obtain ⟨g, cap, h1, h2⟩ := h
  exact ⟨g, cap, h1, h2.touch ht (by have := h2.bs; have := h2.up; omega)⟩
theorem FRow.wide {X : Type} {f : X → List Value} {n : Nat} {w : World} {lo hi lo' hi' : Nat} {v : Value} {L : List X} (h : FRow f n w lo hi v L) (h1 : lo' ≤ lo) (h2 : hi ≤ hi') : FRow f n w lo' hi' v L := by
  obtain ⟨g, cap, e1, e2⟩ := h
  exact ⟨g, cap, e1, e2.wide h1 h2⟩
theorem FR.get {X : Type} {f : X → List Value} {n : Nat} (hf : ∀ x, (f x).length = n) {w : World} {lo hi g cap : Nat} {L : List X} (h : FR f n w lo hi g cap L) {i t : Nat} (hi' : i < L.length) (ht : t < n) {v : Value} (hv : (f L[i])[t]? = some v) : w.cell? ⟨g, i * n + t, none⟩ = some v := by
  have := h.rg (i * n + t) v (by rw [flatV_get hf L i t hi' ht]; exact hv)
  rwa [Nat.zero_add] at this
theorem fr_new {X : Type} (f : X → List Value) (n : Nat) (Y : World) (cs : Array Value) (t : TypeId) (cap : Nat) (hs : cs.size = cap * n) (hm : cap ≤ maxLen) : FR f n (Y.alloc (.cells cs t)) Y.heap.size (Y.heap.size + 1) Y.heap.size cap [] :=
  ⟨Nat.le_refl _, Nat.lt_succ_self _, by simp, Nat.zero_le _, hm, fun j hj => by rw [(Box.new Y cs t _ rfl).cell j, Array.getElem?_eq_getElem (by omega)]; rfl, fun j => (Box.new Y cs t _ rfl).free j, fun j u hu => by simp [flatV] at hu⟩
theorem owns_fr {X : Type} {f : X → List Value} {n : Nat} (hf : ∀ x, (f x).length = n) {w : World} {base : Nat} {e : TypeId} {v : Value} {m : Nat} {L : List X} (h : w.ownsRow base e n v m (flatV f L)) (hm : m = L.length) (h0 : 0 < m) : FRow f n w base w.heap.size v L := by
  subst hm
  rcases h.2 with ⟨_, h'⟩ | ⟨g, cap, cur, hv, hb, hg, hnc, hcm, hcs, htk⟩
  · omega
  · have hlt := (Array.getElem?_eq_some_iff.1 hg).1
    refine ⟨g, cap, hv, hb, hlt, hlt, hnc, hcm, fun j hj => by rw [cell_heap hg, Array.getElem?_eq_getElem (by omega)]; rfl, fun j => frozen_none hg j, fun j u hu => ?_⟩
    rw [Nat.zero_add, cell_heap hg]
    have hj : j < L.length * n := by
      have := (List.getElem?_eq_some_iff.1 hu).1
      rwa [flatV_len hf] at this
    rw [← htk, List.getElem?_take_of_lt hj] at hu
    simpa using hu
theorem FR.put {X : Type} {f : X → List Value} {n : Nat} (hf : ∀ x, (f x).length = n) {w : World} {lo hi g cap : Nat} {L M : List X} (h : FR f n w lo hi g cap L) (hc : L.length + M.length ≤ cap) :
    FR f n (w.setCells g (0 + L.length * n) (flatV f M)) lo hi g cap (L ++ M) := by
  have hlm : (flatV f M).length = M.length * n := flatV_len hf M
  have hll : (flatV f L).length = L.length * n := flatV_len hf L
  have hcn : L.length * n + M.length * n ≤ cap * n := by rw [← Nat.add_mul]; exact Nat.mul_le_mul_right _ hc
  refine ⟨h.bs, h.up, by rw [size_sets]; exact h.lt, by rw [List.length_append]; exact hc, h.mx, fun j hj => World.isSome_setCells _ _ _ _ _ (h.th j hj), fun j => by rw [World.frozen?_setCells]; exact h.fz j, ?_⟩
  rw [flatV_app]
  intro j u hu
  by_cases hj : j < L.length * n
  · rw [List.getElem?_append_left (by omega)] at hu
    exact World.rangeAt_setCells_apart h.rg g (0 + L.length * n) (flatV f M) (Or.inr (Or.inl (by omega))) j u hu
  · rw [List.getElem?_append_right (by omega), hll] at hu
    have := World.rangeAt_setCells_same w g (0 + L.length * n) (flatV f M) (fun j hj' => ⟨h.th _ (by omega), h.fz _⟩) (j - L.length * n) u hu
    rwa [show 0 + L.length * n + (j - L.length * n) = 0 + j by omega] at this
theorem Touch.sets {lo hi b : Nat} (hb : lo ≤ b ∧ b < hi) : ∀ (vs : List Value) (o : Nat) (w : World), Touch lo hi w (w.setCells b o vs)
  | [], _, _ => Touch.refl _ _ _
  | v :: vs, o, w => (Touch.setCell lo hi w ⟨b, o, none⟩ v hb).trans (Touch.sets hb vs (o + 1) _)
/-- append to such a row, whatever is put behind it; where it moves, it moves behind all that is there -/
theorem run_fr {X : Type} {f : X → List Value} {n bytes : Nat} (hf : ∀ x, (f x).length = n) (hn : 0 < n) {t e : TypeId} {z : Value} (ht : Tryz.prog.underlying t = some (.slice e)) (hi : (Tryz.prog.info? e).map (fun i => (i.zero, i.size, i.bytes)) = some (some z, n, bytes)) (hzs : z.cells.size = n)
    {w : World} {lo hi' : Nat} {v : Value} {L M : List X} (ty : TypeId) (h : FRow f n w lo hi' v L) (ao : Option Addr) (m c : Nat) (hM : m = M.length) (hm : ao = none → m = 0)
    (hsrc : ∀ ad, ao = some ad → ∀ j u, (flatV f M)[j]? = some u → w.cell? (ad.add j) = some u) (h1 : ∀ u ∈ flatV f M, u.oneCell' = true) (hb : L.length + M.length ≤ 10000000) (hby : bytes ≤ 1000000) :
    ∃ v' w', (Builtin.append_ #[t, t] ty #[v, .slice ao m c]).run Tryz.prog w = .ok v' w' ∧ Touch lo hi' w w' ∧ (FRow f n w' lo hi' v' (L ++ M) ∨ FRow f n w' w.heap.size w'.heap.size v' (L ++ M)) := by
  have hex : ∃ i, Tryz.prog.info? e = some i ∧ i.zero = some z ∧ i.size = n ∧ i.bytes = bytes := by
    cases hh : Tryz.prog.info? e with
    | none => rw [hh] at hi; simp at hi
    | some i =>
      rw [hh] at hi
      simp only [Option.map_some, Option.some.injEq, Prod.mk.injEq] at hi
      exact ⟨i, rfl, hi.1, hi.2.1, hi.2.2⟩
  obtain ⟨i0, hi0, hz0, hz1, hz2⟩ := hex
  obtain ⟨g, cap, rfl, hr⟩ := h
  subst hM
  have hlm : (flatV f M).length = M.length * n := flatV_len hf M
  cases ao with
  | none =>
    have h0 := hm rfl
    obtain rfl : M = [] := List.eq_nil_of_length_eq_zero h0
    refine ⟨.slice (some ⟨g, 0, none⟩) L.length cap, w, ?_, Touch.refl _ _ _, Or.inl ⟨g, cap, by simp, by simpa using hr⟩⟩
    simp [Builtin.append_, run_underlying ht, sizeOf, typeInfo, hi0, Builtin.lenOf, Builtin.firstCells, storeCells, hr.le]
  | some ad =>
    by_cases hc : L.length + M.length ≤ cap
    · have hcn : L.length * n + M.length * n ≤ cap * n := by rw [← Nat.add_mul]; exact Nat.mul_le_mul_right _ hc
      refine ⟨.slice (some ⟨g, 0, none⟩) (L.length + M.length) cap, w.setCells g (0 + L.length * n) (flatV f M), ?_, Touch.sets ⟨hr.bs, hr.up⟩ _ _ _, Or.inl ⟨g, cap, ?_, hr.put hf hc⟩⟩
      · have := run_append_room_cells (P := Tryz.prog) w t ty e i0 ht hi0 g 0 L.length cap ad M.length c (flatV f M) (by rw [hz1]; exact hlm) (hsrc ad rfl) h1 hc
          (fun j hj => hr.th _ (by rw [hz1]; omega)) (fun j hj => hr.fz _)
        rw [hz1] at this
        exact this
      · rw [List.length_append]
    · obtain ⟨v', w', h2, h3, h4⟩ := run_append_arg_grows (P := Tryz.prog) w t ty e i0 z n bytes ht hi0 hz0 hz1 hz2 hzs hn ⟨g, 0, none⟩ L.length cap (flatV f L) (flatV_len hf L)
        (fun j u hj => by rw [Addr.add_lit]; exact hr.rg j u hj) ad M.length c (flatV f M) hlm (hsrc ad rfl) (by omega) (by unfold maxLen; omega) (by
          have := Nat.mul_le_mul hb hby
          omega)
      exact ⟨v', w', h2, Touch.below ⟨h4.os, h4.tape, h4.output, h4.size, fun k hk => h4.block k hk (by simp)⟩, Or.inr (owns_fr hf (by rw [flatV_app]; exact h3) (by rw [List.length_append]) (by omega))⟩
theorem wpList_fr {X : Type} {f : X → List Value} {n bytes : Nat} (hf : ∀ x, (f x).length = n) (hn : 0 < n) {t e : TypeId} {z : Value} (ht : Tryz.prog.underlying t = some (.slice e)) (hi : (Tryz.prog.info? e).map (fun i => (i.zero, i.size, i.bytes)) = some (some z, n, bytes)) (hzs : z.cells.size = n)
    {w : World} {lo hi' : Nat} {v : Value} {L : List X} (M : List X) {ops : Array Oper} {rest : List Oper} {o : Oper} {a : Act} {Q : Exit → Act → World → Prop} (hgd : o.guard = none) (s x : Operand)
    (ho : o.op = .call { callee := .builtin .append, args := #[s, x], argTypes := #[t, t] }) (hs : a.eval s = v) (h : FRow f n w lo hi' v L) (ao : Option Addr) (m c : Nat) (hx : a.eval x = .slice ao m c) (hM : m = M.length) (hm : ao = none → m = 0)
    (hsrc : ∀ ad, ao = some ad → ∀ j u, (flatV f M)[j]? = some u → w.cell? (ad.add j) = some u) (h1 : ∀ u ∈ flatV f M, u.oneCell' = true) (hb : L.length + M.length ≤ 10000000) (hby : bytes ≤ 1000000)
    (K : ∀ v' w', Touch lo hi' w w' → (FRow f n w' lo hi' v' (L ++ M) ∨ FRow f n w' w.heap.size w'.heap.size v' (L ++ M)) → wpList Tryz.prog ops Q rest (a.put o.dst v') w') : wpList Tryz.prog ops Q (o :: rest) a w := by
  obtain ⟨v', w', h2, h3, h4⟩ := run_fr hf hn ht hi hzs o.type h ao m c hM hm hsrc h1 hb hby
  exact wpList_append_run hgd s x _ ho hs hx h2 (K v' w' h3 h4)
end Go.Proofs.YtfbfgljkiikabaaGreat
namespace Go.Proofs.YtfbfgljkiikabaaGreat
open Go.RowKit Go.Deep

/-! a list of slots that grows in a block of the call's own, whatever that block is typed -/
def rsL (x : Rs) : List Value := [.int .i64 x.ba, .string x.tx]
theorem rsL_len (x : Rs) : (rsL x).length = 2 := rfl
theorem rsL_one (L : List Rs) : ∀ u ∈ flatV rsL L, u.oneCell' = true := fun u hu => by
  obtain ⟨x, -, hx⟩ := flatV_mem hu
  simp only [rsL, List.mem_cons, List.not_mem_nil, or_false] at hx
  rcases hx with rfl | rfl <;> rfl
structure LR (w : World) (base g cap : Nat) (L : List Rs) : Prop where
  bs : base ≤ g
  lt : g < w.heap.size
  le : L.length ≤ cap
  mx : cap ≤ maxLen
  th : ∀ j, j < cap * 2 → (w.cell? ⟨g, j, none⟩).isSome = true
  fz : ∀ j, w.frozen? ⟨g, j, none⟩ = false
  rg : w.rangeAt g 0 (flatV rsL L)
  sz : ∀ i (h : i < L.length), RsSize L[i]
theorem LR.below {w w' : World} {base g cap : Nat} {L : List Rs} (h : LR w base g cap L) (hb : Below w.heap.size w w') : LR w' base g cap L :=
  ⟨h.bs, Nat.lt_of_lt_of_le h.lt hb.size, h.le, h.mx, fun j hj => by rw [hb.cell (p := ⟨g, j, none⟩) h.lt]; exact h.th j hj, fun j => by rw [hb.frozen (p := ⟨g, j, none⟩) h.lt]; exact h.fz j, rng_below h.rg hb h.lt, h.sz⟩
def LRow (w : World) (base : Nat) (v : Value) (L : List Rs) : Prop := ∃ g cap, v = .slice (some ⟨g, 0, none⟩) L.length cap ∧ LR w base g cap L
theorem LRow.below {w w' : World} {base : Nat} {v : Value} {L : List Rs} (h : LRow w base v L) (hb : Below w.heap.size w w') : LRow w' base v L := by
  obtain ⟨g, cap, h1, h2⟩ := h
  exact ⟨g, cap, h1, h2.below hb⟩
theorem LR.cells {w : World} {base g cap : Nat} {L : List Rs} (h : LR w base g cap L) {i : Nat} (hi : i < L.length) : RsCells w g (0 + i * 2) L[i] := by
  have e0 := flatV_get rsL_len L i 0 hi (by omega)
  have e1 := flatV_get rsL_len L i 1 hi (by omega)
  have r0 := h.rg (i * 2) (.int .i64 L[i].ba) (by simpa [rsL] using e0)
  have r1 := h.rg (i * 2 + 1) (.string L[i].tx) (by simpa [rsL] using e1)
  exact ⟨r0, r1⟩
theorem LRow.at {w : World} {base : Nat} {v : Value} {L : List Rs} (h : LRow w base v L) : RssAt base w v L := by
  obtain ⟨g, cap, h1, h2⟩ := h
  by_cases hL : L = []
  · subst hL
    exact Or.inl ⟨_, _, h1, rfl⟩
  · exact Or.inr ⟨g, 0, cap, h1, hL, Nat.le_trans h2.le h2.mx, h2.lt, h2.bs, h2.le, fun i hi => ⟨h2.sz i hi, h2.cells hi⟩⟩
theorem LRow.own {w : World} {base : Nat} {v : Value} {L : List Rs} (h : LRow w base v L) : RssOwn base w.heap.size w v L := by
  obtain ⟨g, cap, h1, h2⟩ := h
  by_cases hL : L = []
  · subst hL
    exact Or.inl ⟨_, _, h1, rfl⟩
  · have h0 : 0 < L.length := List.length_pos_iff.2 hL
    refine Or.inr ⟨g, 0, cap, fun _ => g + 1, fun i => if h : i < L.length then L[i] else L[0], h1, hL, Nat.le_trans h2.le h2.mx, h2.le, fun i hi => by simp [hi], h2.lt, h2.bs, Nat.lt_succ_self _, h2.lt, fun _ _ => Nat.le_refl _, h2.lt, h2.fz, fun i hi => ?_⟩
    simp only [hi, dif_pos]
    exact ⟨h2.sz i hi, h2.cells hi⟩
theorem owns_lr {w : World} {base : Nat} {e : TypeId} {v : Value} {n : Nat} {L : List Rs} (h : w.ownsRow base e 2 v n (flatV rsL L)) (hn : n = L.length) (h0 : 0 < n) (hz : ∀ i (h : i < L.length), RsSize L[i]) : LRow w base v L := by
  subst hn
  rcases h.2 with ⟨_, h'⟩ | ⟨g, cap, cur, hv, hb, hg, hnc, hcm, hcs, htk⟩
  · omega
  · refine ⟨g, cap, hv, hb, (Array.getElem?_eq_some_iff.1 hg).1, hnc, hcm, fun j hj => by rw [cell_heap hg, Array.getElem?_eq_getElem (by omega)]; rfl, fun j => frozen_none hg j, fun j u hu => ?_, hz⟩
    rw [Nat.zero_add, cell_heap hg]
    have hj : j < L.length * 2 := by
      have := (List.getElem?_eq_some_iff.1 hu).1
      rwa [flatV_len rsL_len] at this
    rw [← htk, List.getElem?_take_of_lt hj] at hu
    simpa using hu
theorem LR.put {w : World} {base g cap : Nat} {L M : List Rs} (h : LR w base g cap L) (hc : L.length + M.length ≤ cap) (hz : ∀ i (h : i < M.length), RsSize M[i]) :
    LR (w.setCells g (0 + L.length * 2) (flatV rsL M)) base g cap (L ++ M) := by
  have hlm : (flatV rsL M).length = M.length * 2 := flatV_len rsL_len M
  have hll : (flatV rsL L).length = L.length * 2 := flatV_len rsL_len L
  refine ⟨h.bs, by rw [size_sets]; exact h.lt, by rw [List.length_append]; exact hc, h.mx, fun j hj => World.isSome_setCells _ _ _ _ _ (h.th j hj), fun j => by rw [World.frozen?_setCells]; exact h.fz j, ?_, ?_⟩
  · rw [flatV_app]
    intro j u hu
    by_cases hj : j < L.length * 2
    · rw [List.getElem?_append_left (by omega)] at hu
      exact World.rangeAt_setCells_apart h.rg g (0 + L.length * 2) (flatV rsL M) (Or.inr (Or.inl (by omega))) j u hu
    · rw [List.getElem?_append_right (by omega), hll] at hu
      have := World.rangeAt_setCells_same w g (0 + L.length * 2) (flatV rsL M) (fun j hj' => ⟨h.th _ (by omega), h.fz _⟩) (j - L.length * 2) u hu
      rwa [show 0 + L.length * 2 + (j - L.length * 2) = 0 + j by omega] at this
  · intro i hi
    rw [List.getElem_append]
    split
    · exact h.sz i (by assumption)
    · exact hz _ _
theorem infoRs : (Tryz.prog.info? 115).map (fun i => (i.zero, i.size, i.bytes)) = some (some (.agg #[.int .i64 0, .string ⟨#[]⟩]), 2, 24) := by kernel_rfl
theorem info_parts {P : Program} {t : TypeId} {z : Value} {s b : Nat} (h : (P.info? t).map (fun i => (i.zero, i.size, i.bytes)) = some (some z, s, b)) : ∃ i, P.info? t = some i ∧ i.zero = some z ∧ i.size = s ∧ i.bytes = b := by
  cases hi : P.info? t with
  | none => rw [hi] at h; simp at h
  | some i =>
    rw [hi] at h
    simp only [Option.map_some, Option.some.injEq, Prod.mk.injEq] at h
    exact ⟨i, rfl, h.1, h.2.1, h.2.2⟩
/-- append to such a list, whatever is put behind it -/
theorem run_lrow {w : World} {base : Nat} {v : Value} {L M : List Rs} (ty : TypeId) (h : LRow w base v L) (ao : Option Addr) (m c : Nat) (hM : m = M.length) (hm : ao = none → m = 0)
    (hsrc : ∀ ad, ao = some ad → ∀ j u, (flatV rsL M)[j]? = some u → w.cell? (ad.add j) = some u) (hz : ∀ i (h : i < M.length), RsSize M[i]) (hb : L.length + M.length ≤ 10000000) (hbase : base ≤ w.heap.size) :
    ∃ v' w', (Builtin.append_ #[35, 35] ty #[v, .slice ao m c]).run Tryz.prog w = .ok v' w' ∧ LRow w' base v' (L ++ M) ∧ Below base w w' := by
  obtain ⟨i0, hi, hz0, hz1, hz2⟩ := info_parts infoRs
  obtain ⟨g, cap, rfl, hr⟩ := h
  subst hM
  have hlm : (flatV rsL M).length = M.length * 2 := flatV_len rsL_len M
  cases ao with
  | none =>
    have h0 := hm rfl
    obtain rfl : M = [] := List.eq_nil_of_length_eq_zero h0
    refine ⟨.slice (some ⟨g, 0, none⟩) L.length cap, w, ?_, ⟨g, cap, by simp, by simpa using hr⟩, Below.refl _ _⟩
    simp [Builtin.append_, run_underlying Tryz.underlying35, sizeOf, typeInfo, hi, Builtin.lenOf, Builtin.firstCells, storeCells, hr.le]
  | some ad =>
    by_cases hc : L.length + M.length ≤ cap
    · refine ⟨.slice (some ⟨g, 0, none⟩) (L.length + M.length) cap, w.setCells g (0 + L.length * 2) (flatV rsL M), ?_, ⟨g, cap, ?_, hr.put hc hz⟩, Below.sets hr.bs _ _ (Below.refl _ _)⟩
      · have := run_append_room_cells (P := Tryz.prog) w 35 ty 115 i0 Tryz.underlying35 hi g 0 L.length cap ad M.length c (flatV rsL M) (by rw [hz1]; exact hlm) (hsrc ad rfl) (rsL_one M) hc
          (fun j hj => hr.th _ (by rw [hz1]; omega)) (fun j hj => hr.fz _)
        rw [hz1] at this
        exact this
      · rw [List.length_append]
    · obtain ⟨v', w', h1, h2, h3⟩ := run_append_arg_grows (P := Tryz.prog) w 35 ty 115 i0 (.agg #[.int .i64 0, .string ⟨#[]⟩]) 2 24 Tryz.underlying35 hi hz0 hz1 hz2 rfl (by omega) ⟨g, 0, none⟩ L.length cap (flatV rsL L) (flatV_len rsL_len L)
        (fun j u hj => by rw [Addr.add_lit]; exact hr.rg j u hj) ad M.length c (flatV rsL M) hlm (hsrc ad rfl) (by omega) (by unfold maxLen; omega) (by omega)
      have hzz : ∀ i (h : i < (L ++ M).length), RsSize (L ++ M)[i] := by
        intro i hi
        rw [List.getElem_append]
        split
        · exact hr.sz i (by assumption)
        · exact hz _ _
      have hp : 0 < L.length + M.length := by omega
      have h4 : LRow w' w.heap.size v' (L ++ M) := owns_lr (by rw [flatV_app]; exact h2) (by rw [List.length_append]) hp hzz
      obtain ⟨g', cap', e1, e2⟩ := h4
      exact ⟨v', w', h1, ⟨g', cap', e1, ⟨Nat.le_trans hbase e2.bs, e2.lt, e2.le, e2.mx, e2.th, e2.fz, e2.rg, e2.sz⟩⟩, ⟨h3.os, h3.tape, h3.output, h3.size, fun k hk => h3.block k (by omega) (by simp)⟩⟩
/-- what stands in memory, as a source of an append -/
theorem RssAt.src {lo : Nat} {w : World} {ao : Option Addr} {n cap : Nat} {L : List Rs} (h : RssAt lo w (.slice ao n cap) L) : ∀ ad, ao = some ad → ∀ j u, (flatV rsL L)[j]? = some u → w.cell? (ad.add j) = some u := by
  rintro ad rfl j u hu
  have hj := (List.getElem?_eq_some_iff.1 hu).1
  rw [flatV_len rsL_len] at hj
  obtain ⟨b, off, e, -, -, hc⟩ := h.full' (by omega)
  injection e with e
  subst e
  have hi : j / 2 < L.length := by omega
  obtain ⟨-, hcc⟩ := hc (j / 2) hi
  rw [Addr.add_lit]
  by_cases hm : j % 2 = 0
  · have ej : j = j / 2 * 2 + 0 := by omega
    have := flatV_get rsL_len L (j / 2) 0 hi (by omega)
    rw [← ej, hu] at this
    have hu' : u = .int .i64 L[j / 2].ba := by simpa [rsL] using this
    rw [hu', ← hcc.c0]
    congr 2
    omega
  · have ej : j = j / 2 * 2 + 1 := by omega
    have := flatV_get rsL_len L (j / 2) 1 hi (by omega)
    rw [← ej, hu] at this
    have hu' : u = .string L[j / 2].tx := by simpa [rsL] using this
    rw [hu', ← hcc.c1]
    congr 2
    omega
theorem RssAt.sizes {lo : Nat} {w : World} {v : Value} {L : List Rs} (h : RssAt lo w v L) : ∀ i (hi : i < L.length), RsSize L[i] := by
  intro i hi
  obtain ⟨_, _, _, _, _, _, _, hc⟩ := h.full (fun e => by rw [e] at hi; simp at hi)
  exact (hc i hi).1
theorem RssAt.nilN {lo : Nat} {w : World} {ao : Option Addr} {n cap : Nat} {L : List Rs} (h : RssAt lo w (.slice ao n cap) L) : ao = none → L.length = 0 := by
  rintro rfl
  rcases h with ⟨_, _, _, rfl⟩ | ⟨_, _, _, h1, _⟩
  · rfl
  · injection h1 with e; cases e
end Go.Proofs.YtfbfgljkiikabaaGreat
namespace Go.Proofs.YtfbfgljkiikabaaGreat
open Go.RowKit Go.Deep

def upd {X : Type} (f : Nat → X) (i : Nat) (x : X) : Nat → X := fun k => if k = i then x else f k
theorem upd_same {X : Type} (f : Nat → X) (i : Nat) (x : X) : upd f i x i = x := if_pos rfl
theorem upd_ne {X : Type} (f : Nat → X) {i k : Nat} (x : X) (h : k ≠ i) : upd f i x k = f k := if_neg h
/-- blocks that a call leaves as they are -/
structure Kept (K : Nat → Prop) (w w' : World) : Prop where
  os : w'.os = w.os
  tape : w'.tape = w.tape
  output : w'.output = w.output
  size : w.heap.size ≤ w'.heap.size
  block : ∀ k, K k → w'.heap[k]? = w.heap[k]?
theorem Kept.refl (K : Nat → Prop) (w : World) : Kept K w w := ⟨rfl, rfl, rfl, Nat.le_refl _, fun _ _ => rfl⟩
theorem Kept.trans {K : Nat → Prop} {a b c : World} (h : Kept K a b) (k : Kept K b c) : Kept K a c :=
  ⟨k.os.trans h.os, k.tape.trans h.tape, k.output.trans h.output, Nat.le_trans h.size k.size, fun i hi => (k.block i hi).trans (h.block i hi)⟩
theorem Kept.less {K K' : Nat → Prop} {a b : World} (h : Kept K a b) (hk : ∀ k, K' k → K k) : Kept K' a b := ⟨h.os, h.tape, h.output, h.size, fun k hk' => h.block k (hk k hk')⟩
theorem Kept.touch {K : Nat → Prop} {lo hi : Nat} {w w' : World} (h : Touch lo hi w w') (hk : ∀ k, K k → k < w.heap.size ∧ (k < lo ∨ hi ≤ k)) : Kept K w w' :=
  ⟨h.os, h.tape, h.output, h.size, fun k hk' => h.block k (hk k hk').1 (hk k hk').2⟩
theorem Kept.below {K : Nat → Prop} {n : Nat} {w w' : World} (h : Below n w w') (hk : ∀ k, K k → k < n) : Kept K w w' :=
  ⟨h.os, h.tape, h.output, h.size, fun k hk' => h.block k (hk k hk')⟩
theorem Kept.under {K : Nat → Prop} {n : Nat} {w w' : World} (h : Kept K w w') (hk : ∀ k, k < n → K k) : Below n w w' :=
  ⟨h.os, h.tape, h.output, h.size, fun k hk' => h.block k (hk k hk')⟩
theorem Box.kept {K : Nat → Prop} {w w' : World} {β : Nat} {cs : Array Value} (h : Box w β cs) (hk : Kept K w w') (hb : K β) : Box w' β cs :=
  ⟨Nat.lt_of_lt_of_le h.lt hk.size, fun i => (World.cell?_of_block (w := w) (a := ⟨β, i, none⟩) (hk.block β hb)).trans (h.cell i), fun i => (World.frozen?_of_block (w := w) (a := ⟨β, i, none⟩) (hk.block β hb)).trans (h.free i)⟩
/-- only blocks of S may have turned -/
structure TouchS (S : Nat → Prop) (w w' : World) : Prop where
  os : w'.os = w.os
  tape : w'.tape = w.tape
  output : w'.output = w.output
  size : w.heap.size ≤ w'.heap.size
  block : ∀ k, k < w.heap.size → ¬ S k → w'.heap[k]? = w.heap[k]?
theorem TouchS.refl (S : Nat → Prop) (w : World) : TouchS S w w := ⟨rfl, rfl, rfl, Nat.le_refl _, fun _ _ _ => rfl⟩
theorem TouchS.trans {S : Nat → Prop} {a b c : World} (h : TouchS S a b) (k : TouchS S b c) : TouchS S a c :=
  ⟨k.os.trans h.os, k.tape.trans h.tape, k.output.trans h.output, Nat.le_trans h.size k.size, fun i hi hn => (k.block i (Nat.lt_of_lt_of_le hi h.size) hn).trans (h.block i hi hn)⟩
theorem TouchS.wide {S S' : Nat → Prop} {a b : World} (h : TouchS S a b) (hs : ∀ k, S k → S' k) : TouchS S' a b := ⟨h.os, h.tape, h.output, h.size, fun k hk hn => h.block k hk fun h' => hn (hs k h')⟩
theorem Touch.toS {lo hi : Nat} {S : Nat → Prop} {a b : World} (h : Touch lo hi a b) (hs : ∀ k, lo ≤ k → k < hi → S k) : TouchS S a b :=
  ⟨h.os, h.tape, h.output, h.size, fun k hk hn => h.block k hk (by
    rcases Nat.lt_or_ge k lo with h1 | h1
    · exact Or.inl h1
    · rcases Nat.lt_or_ge k hi with h2 | h2
      · exact absurd (hs k h1 h2) hn
      · exact Or.inr h2)⟩
theorem TouchS.below {S : Nat → Prop} {a b : World} (h : Below a.heap.size a b) : TouchS S a b := ⟨h.os, h.tape, h.output, h.size, fun k hk _ => h.block k hk⟩
theorem TouchS.touch {lo hi : Nat} {S : Nat → Prop} {a b : World} (h : TouchS S a b) (hs : ∀ k, S k → lo ≤ k ∧ k < hi) : Touch lo hi a b :=
  ⟨h.os, h.tape, h.output, h.size, fun k hk ho => h.block k hk fun h' => by have := hs k h'; omega⟩
theorem Kept.touchS {K S : Nat → Prop} {w w' : World} (h : TouchS S w w') (hk : ∀ k, K k → k < w.heap.size ∧ ¬ S k) : Kept K w w' :=
  ⟨h.os, h.tape, h.output, h.size, fun k hk' => h.block k (hk k hk').1 (hk k hk').2⟩
theorem Kept.cell {K : Nat → Prop} {w w' : World} (h : Kept K w w') {p : Addr} (hp : K p.block) : w'.cell? p = w.cell? p := World.cell?_of_block (w := w) (h.block p.block hp)
theorem Kept.frozen {K : Nat → Prop} {w w' : World} (h : Kept K w w') {p : Addr} (hp : K p.block) : w'.frozen? p = w.frozen? p := World.frozen?_of_block (w := w) (h.block p.block hp)
theorem RssOwn.kept {K : Nat → Prop} {lo hi : Nat} {w w' : World} {v : Value} {Xl : List Rs} (h : RssOwn lo hi w v Xl) (hk : Kept K w w') (ho : ∀ k, lo ≤ k → k < hi → K k) : RssOwn lo hi w' v Xl := by
  rcases h with h | ⟨b, off, cap, c, X, h1, h2, h3, h4, h5, h6⟩
  · exact Or.inl h
  · have hb : K b := ho b h6.low h6.bh
    refine Or.inr ⟨b, off, cap, c, X, h1, h2, h3, h4, h5, ⟨Nat.lt_of_lt_of_le h6.lt hk.size, h6.low, h6.bc, h6.bh, h6.mono, h6.top, fun i => (hk.frozen (p := ⟨b, i, none⟩) hb).trans (h6.frz i), fun i hi' => ?_⟩⟩
    obtain ⟨hs, hc⟩ := h6.row i hi'
    exact ⟨hs, ⟨(hk.cell (p := ⟨b, _, none⟩) hb).trans hc.c0, (hk.cell (p := ⟨b, _, none⟩) hb).trans hc.c1⟩⟩
theorem RtsOwn.kept {K : Nat → Prop} {lo hi : Nat} {w w' : World} {v : Value} {L : List ByteArray} (h : RtsOwn lo hi w v L) (hk : Kept K w w') (ho : ∀ k, lo ≤ k → k < hi → K k) : RtsOwn lo hi w' v L := by
  rcases h with h | ⟨b, off, cap, h1, h2, h3, hcp, h4, h5, h7, h8, h9⟩
  · exact Or.inl h
  · have hb : K b := ho b h7 h8
    exact Or.inr ⟨b, off, cap, h1, h2, h3, hcp, Nat.lt_of_lt_of_le h4 hk.size, fun i hi' => ⟨(h5 i hi').1, (hk.cell (p := ⟨b, off + i, none⟩) hb).trans (h5 i hi').2⟩, h7, h8, fun i => (hk.frozen (p := ⟨b, off + i, none⟩) hb).trans (h9 i)⟩
theorem RisOwn.kept {K : Nat → Prop} {lo hi : Nat} {w w' : World} {v : Value} {L : List Int} (h : RisOwn lo hi w v L) (hk : Kept K w w') (ho : ∀ k, lo ≤ k → k < hi → K k) : RisOwn lo hi w' v L := by
  rcases h with h | ⟨b, off, cap, h1, h2, h3, hcp, h4, h5, h7, h8, h9⟩
  · exact Or.inl h
  · have hb : K b := ho b h7 h8
    exact Or.inr ⟨b, off, cap, h1, h2, h3, hcp, Nat.lt_of_lt_of_le h4 hk.size, fun i hi' => (hk.cell (p := ⟨b, off + i, none⟩) hb).trans (h5 i hi'), h7, h8, fun i => (hk.frozen (p := ⟨b, off + i, none⟩) hb).trans (h9 i)⟩
theorem Near.toS {b o n lo hi : Nat} {S : Nat → Prop} {w w' : World} (h : Near b o n lo hi w w') (_hb : b < w.heap.size) (sb : S b) (hs : ∀ k, lo ≤ k → k < hi → S k) : TouchS S w w' :=
  ⟨h.os, h.tape, h.output, h.size, fun k hk hn => h.block k hk (fun e => hn (e ▸ sb)) (by
    rcases Nat.lt_or_ge k lo with h1 | h1
    · exact Or.inl h1
    · rcases Nat.lt_or_ge k hi with h2 | h2
      · exact absurd (hs k h1 h2) hn
      · exact Or.inr h2)⟩
theorem RssOwn.at_ge {n lo hi : Nat} {w : World} {v : Value} {Xl : List Rs} (h : RssOwn lo hi w v Xl) (hs : ∀ k, lo ≤ k → k < hi → n ≤ k) : RssAt n w v Xl := by
  rcases h with h | ⟨b, off, cap, c, X, h1, h2, h3, h4, h5, h6⟩
  · exact Or.inl h
  · refine Or.inr ⟨b, off, cap, h1, h2, h3, h6.lt, hs b h6.low h6.bh, h4, fun i hi' => ?_⟩
    have hr := h6.row i hi'
    rw [h5 i hi'] at hr
    exact hr
theorem RtsOwn.at_ge {n lo hi : Nat} {w : World} {v : Value} {L : List ByteArray} (h : RtsOwn lo hi w v L) (hs : ∀ k, lo ≤ k → k < hi → n ≤ k) : RtsAt n w v L := by
  rcases h with h | ⟨g, off, cap, h1, h2, h3, hcp, h4, h5, h7, h8, h9⟩
  · exact Or.inl h
  · exact Or.inr ⟨g, off, cap, h1, h2, h3, h4, hs g h7 h8, hcp, h5⟩
theorem RisOwn.at_ge {n lo hi : Nat} {w : World} {v : Value} {L : List Int} (h : RisOwn lo hi w v L) (hs : ∀ k, lo ≤ k → k < hi → n ≤ k) : RisAt n w v L := by
  rcases h with h | ⟨g, off, cap, h1, h2, h3, hcp, h4, h5, h7, h8, h9⟩
  · exact Or.inl h
  · exact Or.inr ⟨g, off, cap, h1, h2, h3, h4, hs g h7 h8, hcp, fun i hi => ⟨rfl, h5 i hi⟩⟩
end Go.Proofs.YtfbfgljkiikabaaGreat
