import Derived.Test.YtpdlcccnlciecaaGreatV05
namespace Go.Proofs.YtpdlcccnlciecaaGreat
open Go.RowKit Go.Deep

def EnOne (b o _c0 _c1 : Nat) (w : World) (x : En) : Prop := EnSize x ∧ EnCells w b o x
theorem EnOne.near {b o c0 c1 o1 d0 d1 : Nat} {w w' : World} {x : En} (h : EnOne b o c0 c1 w x) (hn : Near b o1 2 d0 d1 w w') (ho : o + 2 ≤ o1 ∨ o1 + 2 ≤ o) (hi : c1 ≤ d0 ∨ d1 ≤ c0) (hb : b < c0 ∨ c1 ≤ b) : EnOne b o c0 c1 w' x := by
  obtain ⟨hs, hc⟩ := h
  obtain ⟨h0, h1⟩ := hc
  have e : ∀ t, t < 2 → w'.cell? ⟨b, o + t, none⟩ = w.cell? ⟨b, o + t, none⟩ := fun t ht => hn.cell _ (by omega)
  have e0 : w'.cell? ⟨b, o, none⟩ = w.cell? ⟨b, o, none⟩ := hn.cell _ (by omega)
  exact ⟨hs, ⟨e0.trans h0, (e 1 (by omega)).trans h1⟩⟩
theorem EnOne.touch {b o c0 c1 : Nat} {lo hi : Nat} {w w' : World} {x : En} (h : EnOne b o c0 c1 w x) (ht : Touch lo hi w w') (hlt : b < w.heap.size) (hb : b < lo ∨ hi ≤ b) (_hi : c1 ≤ lo ∨ hi ≤ c0) : EnOne b o c0 c1 w' x := by
  obtain ⟨hs, hc⟩ := h
  obtain ⟨h0, h1⟩ := hc
  exact ⟨hs, ⟨(ht.cell (p := ⟨b, o, none⟩) hlt hb).trans h0, (ht.cell (p := ⟨b, o + 1, none⟩) hlt hb).trans h1⟩⟩
theorem EnOne.below {b o c0 c1 : Nat}  {w w' : World} {x : En} (h : EnOne b o c0 c1 w x) (ht : Below w.heap.size w w') (hlt : b < w.heap.size) : EnOne b o c0 c1 w' x := by
  obtain ⟨hs, hc⟩ := h
  obtain ⟨h0, h1⟩ := hc
  exact ⟨hs, ⟨(ht.cell (p := ⟨b, o, none⟩) hlt).trans h0, (ht.cell (p := ⟨b, o + 1, none⟩) hlt).trans h1⟩⟩
structure EnRow (lo hi : Nat) (w : World) (b off n : Nat) (c : Nat → Nat) (X : Nat → En) : Prop where
  lt : b < w.heap.size
  low : lo ≤ b
  bc : b < c 0
  bh : b < hi
  mono : ∀ i, i < n → c i ≤ c (i + 1)
  top : c n ≤ hi
  frz : ∀ i, w.frozen? ⟨b, i, none⟩ = false
  row : ∀ i, i < n → EnOne b (off + i * 2) (c i) (c (i + 1)) w (X i)
theorem EnRow.le {lo hi : Nat} {w : World} {b off n : Nat} {c : Nat → Nat} {X : Nat → En} (h : EnRow lo hi w b off n c X) {i : Nat} : ∀ {j : Nat}, i ≤ j → j ≤ n → c i ≤ c j := by
  intro j
  induction j with
  | zero => intro hij _; have : i = 0 := by omega
            subst this; exact Nat.le_refl _
  | succ j ih =>
    intro hij hjn
    by_cases e : i = j + 1
    · subst e; exact Nat.le_refl _
    · exact Nat.le_trans (ih (by omega) (by omega)) (h.mono j (by omega))
theorem EnRow.near {lo hi : Nat} {w w' : World} {b off n : Nat} {c : Nat → Nat} {X : Nat → En} (h : EnRow lo hi w b off n c X) {j : Nat} (hj : j < n) (hn : Near b (off + j * 2) 2 (c j) (c (j + 1)) w w') {x : En} (hx : EnOne b (off + j * 2) (c j) (c (j + 1)) w' x) : EnRow lo hi w' b off n c (fun i => if i = j then x else X i) := by
  refine ⟨Nat.lt_of_lt_of_le h.lt hn.size, h.low, h.bc, h.bh, h.mono, h.top, fun i => (hn.frz i).trans (h.frz i), fun i hi' => ?_⟩
  by_cases e : i = j
  · subst e; rw [if_pos rfl]; exact hx
  · rw [if_neg e]
    have h0 := h.le (Nat.zero_le i) (by omega)
    have hbc := h.bc
    refine (h.row i hi').near hn (by omega) ?_ (by omega)
    rcases Nat.lt_or_ge i j with hij | hij
    · exact Or.inl (h.le (by omega) (by omega))
    · exact Or.inr (h.le (by omega) (by omega))
theorem EnRow.touch {lo hi lo' hi' : Nat} {w w' : World} {b off n : Nat} {c : Nat → Nat} {X : Nat → En} (h : EnRow lo hi w b off n c X) (ht : Touch lo' hi' w w') (ho : hi ≤ lo' ∨ hi' ≤ lo) : EnRow lo hi w' b off n c X := by
  have h1 := h.low
  have h2 := h.bh
  have h3 := h.top
  have h4 := h.bc
  refine ⟨Nat.lt_of_lt_of_le h.lt ht.size, h.low, h.bc, h.bh, h.mono, h.top, fun i => (ht.frozen (p := ⟨b, i, none⟩) h.lt (by simp only []; omega)).trans (h.frz i), fun i hi' => ?_⟩
  have h5 := h.le (Nat.zero_le i) (by omega)
  have h6 := h.le (i := i + 1) (j := n) (by omega) (Nat.le_refl _)
  exact (h.row i hi').touch ht h.lt (by omega) (by omega)
theorem EnRow.below {lo hi : Nat} {w w' : World} {b off n : Nat} {c : Nat → Nat} {X : Nat → En} (h : EnRow lo hi w b off n c X) (ht : Below w.heap.size w w') : EnRow lo hi w' b off n c X :=
  ⟨Nat.lt_of_lt_of_le h.lt ht.size, h.low, h.bc, h.bh, h.mono, h.top, fun i => (ht.frozen (p := ⟨b, i, none⟩) h.lt).trans (h.frz i), fun i hi' => (h.row i hi').below ht h.lt⟩
theorem EnRow.to {lo hi : Nat} {w : World} {b off n : Nat} {c : Nat → Nat} {X Y : Nat → En} (h : EnRow lo hi w b off n c X) (e : ∀ i, i < n → X i = Y i) : EnRow lo hi w b off n c Y :=
  ⟨h.lt, h.low, h.bc, h.bh, h.mono, h.top, h.frz, fun i hi' => e i hi' ▸ h.row i hi'⟩
/-- a list of one's own -/
def EnsOwn (lo hi : Nat) (w : World) (v : Value) (Xl : List En) : Prop :=
  (∃ (a : Option Addr) (cap : Nat), v = .slice a 0 cap ∧ Xl = []) ∨
  ∃ (b off cap : Nat) (c : Nat → Nat) (X : Nat → En), v = .slice (some ⟨b, off, none⟩) Xl.length cap ∧ Xl ≠ [] ∧ Xl.length ≤ maxLen ∧ Xl.length ≤ cap ∧ (∀ i (h : i < Xl.length), X i = Xl[i]) ∧ EnRow lo hi w b off Xl.length c X
theorem EnsOwn.touch {lo hi lo' hi' : Nat} {w w' : World} {v : Value} {Xl : List En} (h : EnsOwn lo hi w v Xl) (ht : Touch lo' hi' w w') (ho : hi ≤ lo' ∨ hi' ≤ lo) : EnsOwn lo hi w' v Xl := by
  rcases h with h | ⟨b, off, cap, c, X, h1, h2, h3, h4, h5, h6⟩
  · exact Or.inl h
  · exact Or.inr ⟨b, off, cap, c, X, h1, h2, h3, h4, h5, h6.touch ht ho⟩
theorem EnsOwn.below {lo hi : Nat} {w w' : World} {v : Value} {Xl : List En} (h : EnsOwn lo hi w v Xl) (ht : Below w.heap.size w w') : EnsOwn lo hi w' v Xl := by
  rcases h with h | ⟨b, off, cap, c, X, h1, h2, h3, h4, h5, h6⟩
  · exact Or.inl h
  · exact Or.inr ⟨b, off, cap, c, X, h1, h2, h3, h4, h5, h6.below ht⟩
theorem EnsOwn.form {lo hi : Nat} {w : World} {v : Value} {Xl : List En} (h : EnsOwn lo hi w v Xl) : ∃ a cap, v = .slice a Xl.length cap := by
  rcases h with ⟨a, cap, h, rfl⟩ | ⟨b, off, cap, c, X, h1, _⟩
  · exact ⟨a, cap, h⟩
  · exact ⟨_, cap, h1⟩
theorem EnsOwn.at {lo hi : Nat} {w : World} {v : Value} {Xl : List En} (h : EnsOwn lo hi w v Xl) : EnsAt lo w v Xl := by
  rcases h with h | ⟨b, off, cap, c, X, h1, h2, h3, h4, h5, h6⟩
  · exact Or.inl h
  · refine Or.inr ⟨b, off, cap, h1, h2, h3, h6.lt, h6.low, h4, fun i hi' => ?_⟩
    have hr := h6.row i hi'
    rw [h5 i hi'] at hr
    obtain ⟨hs, hc⟩ := hr
    exact ⟨hs, hc⟩
/-- marks from k on -/
def mkEn (k : Int) (_x : En) : En := ⟨k, k + 1⟩
def wdEn (_x : En) : Nat := 2
def posEn (Xl : List En) (i : Nat) : Nat := ((Xl.take i).map wdEn).sum
def mkEns (k : Int) (Xl : List En) : List En := Xl.mapIdx (fun i x => mkEn (k + (posEn Xl i : Int)) x)
theorem mkEns_len (k : Int) (Xl : List En) : (mkEns k Xl).length = Xl.length := by unfold mkEns; simp
theorem mkEns_get (k : Int) (Xl : List En) (i : Nat) (h : i < (mkEns k Xl).length) (h' : i < Xl.length) : (mkEns k Xl)[i] = mkEn (k + (posEn Xl i : Int)) Xl[i] := List.getElem_mapIdx (f := fun i x => mkEn (k + (posEn Xl i : Int)) x) (h := h)
theorem posEn_succ {Xl : List En} {i : Nat} (h : i < Xl.length) : posEn Xl (i + 1) = posEn Xl i + wdEn Xl[i] := by
  unfold posEn
  rw [List.take_succ_eq_append_getElem h, List.map_append, List.sum_append]
  simp
theorem posEn_le {Xl : List En} (_hn : EnsSmall Xl) : ∀ {i : Nat}, i ≤ Xl.length → posEn Xl i ≤ i * 3000000 := by
  intro i
  induction i with
  | zero => intro _; simp [posEn]
  | succ i ih =>
    intro hi'
    have h1 := ih (by omega)
    rw [posEn_succ (by omega)]
    have h2 : wdEn Xl[i] ≤ 3000000 := by
      unfold wdEn
      omega
    omega
theorem posEn_all {Xl : List En} {i : Nat} (h : Xl.length ≤ i) : posEn Xl i = posEn Xl Xl.length := by
  unfold posEn
  rw [List.take_of_length_le h, List.take_of_length_le (Nat.le_refl _)]
structure EnSt (wr : World) (b o c0 c1 : Nat) (v : World) (y : En) : Prop where
  near : Near b o 2 c0 c1 wr v
  bc : b < c0
  cells : EnCells v b o y
  frz : ∀ i, v.frozen? ⟨b, i, none⟩ = false
  lt : b < v.heap.size
theorem EnSt.below {wr : World} {b o c0 c1 : Nat} {v v' : World} {y : En} (h : EnSt wr b o c0 c1 v y) (hb : Below v.heap.size v v') : EnSt wr b o c0 c1 v' y :=
  ⟨h.near.trans (Near.below hb h.lt), h.bc, h.cells.below hb h.lt, fun i => (hb.frozen (p := ⟨b, i, none⟩) h.lt).trans (h.frz i), Nat.lt_of_lt_of_le h.lt hb.size⟩
theorem EnSt.s0 {wr : World} {b o c0 c1 : Nat} {v : World} {y : En} (h : EnSt wr b o c0 c1 v y) (u : Int) : EnSt wr b o c0 c1 (v.setCell ⟨b, o, none⟩ (.int .i64 u)) { y with nu := u } := by
  obtain ⟨h0, h1⟩ := h.cells
  have ht : Touch b (b + 1) v (v.setCell ⟨b, o, none⟩ (.int .i64 u)) := Touch.setCell _ _ _ _ _ ⟨Nat.le_refl _, by simp only []; omega⟩
  have hbc := h.bc
  exact ⟨h.near.trans (Near.set _ _ _ _ _ _ _ _ (by omega) (by omega)), h.bc, ⟨World.cell?_setCell_same' _ _ _ (by rw [h0]; rfl), (cne (by omega)).trans h1⟩, fun i => by rw [World.frozen?_setCell]; exact h.frz i, by simpa [World.setCell] using h.lt⟩
theorem EnSt.s1 {wr : World} {b o c0 c1 : Nat} {v : World} {y : En} (h : EnSt wr b o c0 c1 v y) (u : Int) : EnSt wr b o c0 c1 (v.setCell ⟨b, o + 1, none⟩ (.int .i64 u)) { y with sn := u } := by
  obtain ⟨h0, h1⟩ := h.cells
  have ht : Touch b (b + 1) v (v.setCell ⟨b, o + 1, none⟩ (.int .i64 u)) := Touch.setCell _ _ _ _ _ ⟨Nat.le_refl _, by simp only []; omega⟩
  have hbc := h.bc
  exact ⟨h.near.trans (Near.set _ _ _ _ _ _ _ _ (by omega) (by omega)), h.bc, ⟨(cne (by omega)).trans h0, World.cell?_setCell_same' _ _ _ (by rw [h1]; rfl)⟩, fun i => by rw [World.frozen?_setCell]; exact h.frz i, by simpa [World.setCell] using h.lt⟩
end Go.Proofs.YtpdlcccnlciecaaGreat
namespace Go.Proofs.YtpdlcccnlciecaaGreat
open Go.RowKit Go.Deep

def BeOne (b o _c0 _c1 : Nat) (w : World) (x : Be) : Prop := BeSize x ∧ BeCells w b o x
theorem BeOne.near {b o c0 c1 o1 d0 d1 : Nat} {w w' : World} {x : Be} (h : BeOne b o c0 c1 w x) (hn : Near b o1 2 d0 d1 w w') (ho : o + 2 ≤ o1 ∨ o1 + 2 ≤ o) (hi : c1 ≤ d0 ∨ d1 ≤ c0) (hb : b < c0 ∨ c1 ≤ b) : BeOne b o c0 c1 w' x := by
  obtain ⟨hs, hc⟩ := h
  obtain ⟨h0, h1⟩ := hc
  have e : ∀ t, t < 2 → w'.cell? ⟨b, o + t, none⟩ = w.cell? ⟨b, o + t, none⟩ := fun t ht => hn.cell _ (by omega)
  have e0 : w'.cell? ⟨b, o, none⟩ = w.cell? ⟨b, o, none⟩ := hn.cell _ (by omega)
  exact ⟨hs, ⟨e0.trans h0, (e 1 (by omega)).trans h1⟩⟩
theorem BeOne.touch {b o c0 c1 : Nat} {lo hi : Nat} {w w' : World} {x : Be} (h : BeOne b o c0 c1 w x) (ht : Touch lo hi w w') (hlt : b < w.heap.size) (hb : b < lo ∨ hi ≤ b) (_hi : c1 ≤ lo ∨ hi ≤ c0) : BeOne b o c0 c1 w' x := by
  obtain ⟨hs, hc⟩ := h
  obtain ⟨h0, h1⟩ := hc
  exact ⟨hs, ⟨(ht.cell (p := ⟨b, o, none⟩) hlt hb).trans h0, (ht.cell (p := ⟨b, o + 1, none⟩) hlt hb).trans h1⟩⟩
theorem BeOne.below {b o c0 c1 : Nat}  {w w' : World} {x : Be} (h : BeOne b o c0 c1 w x) (ht : Below w.heap.size w w') (hlt : b < w.heap.size) : BeOne b o c0 c1 w' x := by
  obtain ⟨hs, hc⟩ := h
  obtain ⟨h0, h1⟩ := hc
  exact ⟨hs, ⟨(ht.cell (p := ⟨b, o, none⟩) hlt).trans h0, (ht.cell (p := ⟨b, o + 1, none⟩) hlt).trans h1⟩⟩
structure BeRow (lo hi : Nat) (w : World) (b off n : Nat) (c : Nat → Nat) (X : Nat → Be) : Prop where
  lt : b < w.heap.size
  low : lo ≤ b
  bc : b < c 0
  bh : b < hi
  mono : ∀ i, i < n → c i ≤ c (i + 1)
  top : c n ≤ hi
  frz : ∀ i, w.frozen? ⟨b, i, none⟩ = false
  row : ∀ i, i < n → BeOne b (off + i * 2) (c i) (c (i + 1)) w (X i)
theorem BeRow.le {lo hi : Nat} {w : World} {b off n : Nat} {c : Nat → Nat} {X : Nat → Be} (h : BeRow lo hi w b off n c X) {i : Nat} : ∀ {j : Nat}, i ≤ j → j ≤ n → c i ≤ c j := by
  intro j
  induction j with
  | zero => intro hij _; have : i = 0 := by omega
            subst this; exact Nat.le_refl _
  | succ j ih =>
    intro hij hjn
    by_cases e : i = j + 1
    · subst e; exact Nat.le_refl _
    · exact Nat.le_trans (ih (by omega) (by omega)) (h.mono j (by omega))
theorem BeRow.near {lo hi : Nat} {w w' : World} {b off n : Nat} {c : Nat → Nat} {X : Nat → Be} (h : BeRow lo hi w b off n c X) {j : Nat} (hj : j < n) (hn : Near b (off + j * 2) 2 (c j) (c (j + 1)) w w') {x : Be} (hx : BeOne b (off + j * 2) (c j) (c (j + 1)) w' x) : BeRow lo hi w' b off n c (fun i => if i = j then x else X i) := by
  refine ⟨Nat.lt_of_lt_of_le h.lt hn.size, h.low, h.bc, h.bh, h.mono, h.top, fun i => (hn.frz i).trans (h.frz i), fun i hi' => ?_⟩
  by_cases e : i = j
  · subst e; rw [if_pos rfl]; exact hx
  · rw [if_neg e]
    have h0 := h.le (Nat.zero_le i) (by omega)
    have hbc := h.bc
    refine (h.row i hi').near hn (by omega) ?_ (by omega)
    rcases Nat.lt_or_ge i j with hij | hij
    · exact Or.inl (h.le (by omega) (by omega))
    · exact Or.inr (h.le (by omega) (by omega))
theorem BeRow.touch {lo hi lo' hi' : Nat} {w w' : World} {b off n : Nat} {c : Nat → Nat} {X : Nat → Be} (h : BeRow lo hi w b off n c X) (ht : Touch lo' hi' w w') (ho : hi ≤ lo' ∨ hi' ≤ lo) : BeRow lo hi w' b off n c X := by
  have h1 := h.low
  have h2 := h.bh
  have h3 := h.top
  have h4 := h.bc
  refine ⟨Nat.lt_of_lt_of_le h.lt ht.size, h.low, h.bc, h.bh, h.mono, h.top, fun i => (ht.frozen (p := ⟨b, i, none⟩) h.lt (by simp only []; omega)).trans (h.frz i), fun i hi' => ?_⟩
  have h5 := h.le (Nat.zero_le i) (by omega)
  have h6 := h.le (i := i + 1) (j := n) (by omega) (Nat.le_refl _)
  exact (h.row i hi').touch ht h.lt (by omega) (by omega)
theorem BeRow.below {lo hi : Nat} {w w' : World} {b off n : Nat} {c : Nat → Nat} {X : Nat → Be} (h : BeRow lo hi w b off n c X) (ht : Below w.heap.size w w') : BeRow lo hi w' b off n c X :=
  ⟨Nat.lt_of_lt_of_le h.lt ht.size, h.low, h.bc, h.bh, h.mono, h.top, fun i => (ht.frozen (p := ⟨b, i, none⟩) h.lt).trans (h.frz i), fun i hi' => (h.row i hi').below ht h.lt⟩
theorem BeRow.to {lo hi : Nat} {w : World} {b off n : Nat} {c : Nat → Nat} {X Y : Nat → Be} (h : BeRow lo hi w b off n c X) (e : ∀ i, i < n → X i = Y i) : BeRow lo hi w b off n c Y :=
  ⟨h.lt, h.low, h.bc, h.bh, h.mono, h.top, h.frz, fun i hi' => e i hi' ▸ h.row i hi'⟩
/-- a list of one's own -/
def BesOwn (lo hi : Nat) (w : World) (v : Value) (Xl : List Be) : Prop :=
  (∃ (a : Option Addr) (cap : Nat), v = .slice a 0 cap ∧ Xl = []) ∨
  ∃ (b off cap : Nat) (c : Nat → Nat) (X : Nat → Be), v = .slice (some ⟨b, off, none⟩) Xl.length cap ∧ Xl ≠ [] ∧ Xl.length ≤ maxLen ∧ Xl.length ≤ cap ∧ (∀ i (h : i < Xl.length), X i = Xl[i]) ∧ BeRow lo hi w b off Xl.length c X
theorem BesOwn.touch {lo hi lo' hi' : Nat} {w w' : World} {v : Value} {Xl : List Be} (h : BesOwn lo hi w v Xl) (ht : Touch lo' hi' w w') (ho : hi ≤ lo' ∨ hi' ≤ lo) : BesOwn lo hi w' v Xl := by
  rcases h with h | ⟨b, off, cap, c, X, h1, h2, h3, h4, h5, h6⟩
  · exact Or.inl h
  · exact Or.inr ⟨b, off, cap, c, X, h1, h2, h3, h4, h5, h6.touch ht ho⟩
theorem BesOwn.below {lo hi : Nat} {w w' : World} {v : Value} {Xl : List Be} (h : BesOwn lo hi w v Xl) (ht : Below w.heap.size w w') : BesOwn lo hi w' v Xl := by
  rcases h with h | ⟨b, off, cap, c, X, h1, h2, h3, h4, h5, h6⟩
  · exact Or.inl h
  · exact Or.inr ⟨b, off, cap, c, X, h1, h2, h3, h4, h5, h6.below ht⟩
theorem BesOwn.form {lo hi : Nat} {w : World} {v : Value} {Xl : List Be} (h : BesOwn lo hi w v Xl) : ∃ a cap, v = .slice a Xl.length cap := by
  rcases h with ⟨a, cap, h, rfl⟩ | ⟨b, off, cap, c, X, h1, _⟩
  · exact ⟨a, cap, h⟩
  · exact ⟨_, cap, h1⟩
theorem BesOwn.at {lo hi : Nat} {w : World} {v : Value} {Xl : List Be} (h : BesOwn lo hi w v Xl) : BesAt lo w v Xl := by
  rcases h with h | ⟨b, off, cap, c, X, h1, h2, h3, h4, h5, h6⟩
  · exact Or.inl h
  · refine Or.inr ⟨b, off, cap, h1, h2, h3, h6.lt, h6.low, h4, fun i hi' => ?_⟩
    have hr := h6.row i hi'
    rw [h5 i hi'] at hr
    obtain ⟨hs, hc⟩ := hr
    exact ⟨hs, hc⟩
/-- marks from k on -/
def mkBe (k : Int) (_x : Be) : Be := ⟨mtB (k), ((k + 1) % 3 == 0)⟩
def wdBe (_x : Be) : Nat := 2
def posBe (Xl : List Be) (i : Nat) : Nat := ((Xl.take i).map wdBe).sum
def mkBes (k : Int) (Xl : List Be) : List Be := Xl.mapIdx (fun i x => mkBe (k + (posBe Xl i : Int)) x)
theorem mkBes_len (k : Int) (Xl : List Be) : (mkBes k Xl).length = Xl.length := by unfold mkBes; simp
theorem mkBes_get (k : Int) (Xl : List Be) (i : Nat) (h : i < (mkBes k Xl).length) (h' : i < Xl.length) : (mkBes k Xl)[i] = mkBe (k + (posBe Xl i : Int)) Xl[i] := List.getElem_mapIdx (f := fun i x => mkBe (k + (posBe Xl i : Int)) x) (h := h)
theorem posBe_succ {Xl : List Be} {i : Nat} (h : i < Xl.length) : posBe Xl (i + 1) = posBe Xl i + wdBe Xl[i] := by
  unfold posBe
  rw [List.take_succ_eq_append_getElem h, List.map_append, List.sum_append]
  simp
theorem posBe_le {Xl : List Be} (_hn : BesSmall Xl) : ∀ {i : Nat}, i ≤ Xl.length → posBe Xl i ≤ i * 3000000 := by
  intro i
  induction i with
  | zero => intro _; simp [posBe]
  | succ i ih =>
    intro hi'
    have h1 := ih (by omega)
    rw [posBe_succ (by omega)]
    have h2 : wdBe Xl[i] ≤ 3000000 := by
      unfold wdBe
      omega
    omega
theorem posBe_all {Xl : List Be} {i : Nat} (h : Xl.length ≤ i) : posBe Xl i = posBe Xl Xl.length := by
  unfold posBe
  rw [List.take_of_length_le h, List.take_of_length_le (Nat.le_refl _)]
structure BeSt (wr : World) (b o c0 c1 : Nat) (v : World) (y : Be) : Prop where
  near : Near b o 2 c0 c1 wr v
  bc : b < c0
  cells : BeCells v b o y
  frz : ∀ i, v.frozen? ⟨b, i, none⟩ = false
  lt : b < v.heap.size
theorem BeSt.below {wr : World} {b o c0 c1 : Nat} {v v' : World} {y : Be} (h : BeSt wr b o c0 c1 v y) (hb : Below v.heap.size v v') : BeSt wr b o c0 c1 v' y :=
  ⟨h.near.trans (Near.below hb h.lt), h.bc, h.cells.below hb h.lt, fun i => (hb.frozen (p := ⟨b, i, none⟩) h.lt).trans (h.frz i), Nat.lt_of_lt_of_le h.lt hb.size⟩
theorem BeSt.s0 {wr : World} {b o c0 c1 : Nat} {v : World} {y : Be} (h : BeSt wr b o c0 c1 v y) (u : ByteArray) : BeSt wr b o c0 c1 (v.setCell ⟨b, o, none⟩ (.string u)) { y with nm := u } := by
  obtain ⟨h0, h1⟩ := h.cells
  have ht : Touch b (b + 1) v (v.setCell ⟨b, o, none⟩ (.string u)) := Touch.setCell _ _ _ _ _ ⟨Nat.le_refl _, by simp only []; omega⟩
  have hbc := h.bc
  exact ⟨h.near.trans (Near.set _ _ _ _ _ _ _ _ (by omega) (by omega)), h.bc, ⟨World.cell?_setCell_same' _ _ _ (by rw [h0]; rfl), (cne (by omega)).trans h1⟩, fun i => by rw [World.frozen?_setCell]; exact h.frz i, by simpa [World.setCell] using h.lt⟩
theorem BeSt.s1 {wr : World} {b o c0 c1 : Nat} {v : World} {y : Be} (h : BeSt wr b o c0 c1 v y) (u : Bool) : BeSt wr b o c0 c1 (v.setCell ⟨b, o + 1, none⟩ (.bool u)) { y with dr := u } := by
  obtain ⟨h0, h1⟩ := h.cells
  have ht : Touch b (b + 1) v (v.setCell ⟨b, o + 1, none⟩ (.bool u)) := Touch.setCell _ _ _ _ _ ⟨Nat.le_refl _, by simp only []; omega⟩
  have hbc := h.bc
  exact ⟨h.near.trans (Near.set _ _ _ _ _ _ _ _ (by omega) (by omega)), h.bc, ⟨(cne (by omega)).trans h0, World.cell?_setCell_same' _ _ _ (by rw [h1]; rfl)⟩, fun i => by rw [World.frozen?_setCell]; exact h.frz i, by simpa [World.setCell] using h.lt⟩
end Go.Proofs.YtpdlcccnlciecaaGreat
