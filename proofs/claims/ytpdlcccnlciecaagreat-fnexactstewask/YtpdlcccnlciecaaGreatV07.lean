import Derived.Test.YtpdlcccnlciecaaGreatV05
namespace Go.Proofs.YtpdlcccnlciecaaGreat
open Go.RowKit Go.Deep

def SvOne (b o _c0 _c1 : Nat) (w : World) (x : Sv) : Prop := SvSize x ∧ SvCells w b o x
theorem SvOne.near {b o c0 c1 o1 d0 d1 : Nat} {w w' : World} {x : Sv} (h : SvOne b o c0 c1 w x) (hn : Near b o1 13 d0 d1 w w') (ho : o + 13 ≤ o1 ∨ o1 + 13 ≤ o) (hi : c1 ≤ d0 ∨ d1 ≤ c0) (hb : b < c0 ∨ c1 ≤ b) : SvOne b o c0 c1 w' x := by
  obtain ⟨hs, hc⟩ := h
  obtain ⟨h0, h1, h2, h3, h4, h5, h6, h7, h8, h9, h10, h11, h12⟩ := hc
  have e : ∀ t, t < 13 → w'.cell? ⟨b, o + t, none⟩ = w.cell? ⟨b, o + t, none⟩ := fun t ht => hn.cell _ (by omega)
  have e0 : w'.cell? ⟨b, o, none⟩ = w.cell? ⟨b, o, none⟩ := hn.cell _ (by omega)
  exact ⟨hs, ⟨e0.trans h0, (e 1 (by omega)).trans h1, (e 2 (by omega)).trans h2, (e 3 (by omega)).trans h3, (e 4 (by omega)).trans h4, (e 5 (by omega)).trans h5, (e 6 (by omega)).trans h6, (e 7 (by omega)).trans h7, (e 8 (by omega)).trans h8, (e 9 (by omega)).trans h9, (e 10 (by omega)).trans h10, (e 11 (by omega)).trans h11, (e 12 (by omega)).trans h12⟩⟩
theorem SvOne.touch {b o c0 c1 : Nat} {lo hi : Nat} {w w' : World} {x : Sv} (h : SvOne b o c0 c1 w x) (ht : Touch lo hi w w') (hlt : b < w.heap.size) (hb : b < lo ∨ hi ≤ b) (_hi : c1 ≤ lo ∨ hi ≤ c0) : SvOne b o c0 c1 w' x := by
  obtain ⟨hs, hc⟩ := h
  obtain ⟨h0, h1, h2, h3, h4, h5, h6, h7, h8, h9, h10, h11, h12⟩ := hc
  exact ⟨hs, ⟨(ht.cell (p := ⟨b, o, none⟩) hlt hb).trans h0, (ht.cell (p := ⟨b, o + 1, none⟩) hlt hb).trans h1, (ht.cell (p := ⟨b, o + 2, none⟩) hlt hb).trans h2, (ht.cell (p := ⟨b, o + 3, none⟩) hlt hb).trans h3, (ht.cell (p := ⟨b, o + 4, none⟩) hlt hb).trans h4, (ht.cell (p := ⟨b, o + 5, none⟩) hlt hb).trans h5, (ht.cell (p := ⟨b, o + 6, none⟩) hlt hb).trans h6, (ht.cell (p := ⟨b, o + 7, none⟩) hlt hb).trans h7, (ht.cell (p := ⟨b, o + 8, none⟩) hlt hb).trans h8, (ht.cell (p := ⟨b, o + 9, none⟩) hlt hb).trans h9, (ht.cell (p := ⟨b, o + 10, none⟩) hlt hb).trans h10, (ht.cell (p := ⟨b, o + 11, none⟩) hlt hb).trans h11, (ht.cell (p := ⟨b, o + 12, none⟩) hlt hb).trans h12⟩⟩
theorem SvOne.below {b o c0 c1 : Nat}  {w w' : World} {x : Sv} (h : SvOne b o c0 c1 w x) (ht : Below w.heap.size w w') (hlt : b < w.heap.size) : SvOne b o c0 c1 w' x := by
  obtain ⟨hs, hc⟩ := h
  obtain ⟨h0, h1, h2, h3, h4, h5, h6, h7, h8, h9, h10, h11, h12⟩ := hc
  exact ⟨hs, ⟨(ht.cell (p := ⟨b, o, none⟩) hlt).trans h0, (ht.cell (p := ⟨b, o + 1, none⟩) hlt).trans h1, (ht.cell (p := ⟨b, o + 2, none⟩) hlt).trans h2, (ht.cell (p := ⟨b, o + 3, none⟩) hlt).trans h3, (ht.cell (p := ⟨b, o + 4, none⟩) hlt).trans h4, (ht.cell (p := ⟨b, o + 5, none⟩) hlt).trans h5, (ht.cell (p := ⟨b, o + 6, none⟩) hlt).trans h6, (ht.cell (p := ⟨b, o + 7, none⟩) hlt).trans h7, (ht.cell (p := ⟨b, o + 8, none⟩) hlt).trans h8, (ht.cell (p := ⟨b, o + 9, none⟩) hlt).trans h9, (ht.cell (p := ⟨b, o + 10, none⟩) hlt).trans h10, (ht.cell (p := ⟨b, o + 11, none⟩) hlt).trans h11, (ht.cell (p := ⟨b, o + 12, none⟩) hlt).trans h12⟩⟩
structure SvRow (lo hi : Nat) (w : World) (b off n : Nat) (c : Nat → Nat) (X : Nat → Sv) : Prop where
  lt : b < w.heap.size
  low : lo ≤ b
  bc : b < c 0
  bh : b < hi
  mono : ∀ i, i < n → c i ≤ c (i + 1)
  top : c n ≤ hi
  frz : ∀ i, w.frozen? ⟨b, i, none⟩ = false
  row : ∀ i, i < n → SvOne b (off + i * 13) (c i) (c (i + 1)) w (X i)
theorem SvRow.le {lo hi : Nat} {w : World} {b off n : Nat} {c : Nat → Nat} {X : Nat → Sv} (h : SvRow lo hi w b off n c X) {i : Nat} : ∀ {j : Nat}, i ≤ j → j ≤ n → c i ≤ c j := by
  intro j
  induction j with
  | zero => intro hij _; have : i = 0 := by omega
            subst this; exact Nat.le_refl _
  | succ j ih =>
    intro hij hjn
    by_cases e : i = j + 1
    · subst e; exact Nat.le_refl _
    · exact Nat.le_trans (ih (by omega) (by omega)) (h.mono j (by omega))
theorem SvRow.near {lo hi : Nat} {w w' : World} {b off n : Nat} {c : Nat → Nat} {X : Nat → Sv} (h : SvRow lo hi w b off n c X) {j : Nat} (hj : j < n) (hn : Near b (off + j * 13) 13 (c j) (c (j + 1)) w w') {x : Sv} (hx : SvOne b (off + j * 13) (c j) (c (j + 1)) w' x) : SvRow lo hi w' b off n c (fun i => if i = j then x else X i) := by
  refine ⟨Nat.lt_of_lt_of_le h.lt hn.size, h.low, h.bc, h.bh, h.mono, h.top, fun i => (hn.frz i).trans (h.frz i), fun i hi' => ?_⟩
  by_cases e : i = j
  · subst e; rw [if_pos rfl]; exact hx
  · rw [if_neg e]
    have h0 := h.le (Nat.zero_le i) (by omega)
    have hbc := h.bc
    refine (h.row i hi').near hn (by omega) ?_ (by omega)
    rcases Nat.lt_or_ge i j with hij | hij
    · exact Or.inl (h.le (by omega) (by omega))
    · exact Or.inr (h.le (by omega) (by omega))
theorem SvRow.touch {lo hi lo' hi' : Nat} {w w' : World} {b off n : Nat} {c : Nat → Nat} {X : Nat → Sv} (h : SvRow lo hi w b off n c X) (ht : Touch lo' hi' w w') (ho : hi ≤ lo' ∨ hi' ≤ lo) : SvRow lo hi w' b off n c X := by
  have h1 := h.low
  have h2 := h.bh
  have h3 := h.top
  have h4 := h.bc
  refine ⟨Nat.lt_of_lt_of_le h.lt ht.size, h.low, h.bc, h.bh, h.mono, h.top, fun i => (ht.frozen (p := ⟨b, i, none⟩) h.lt (by simp only []; omega)).trans (h.frz i), fun i hi' => ?_⟩
  have h5 := h.le (Nat.zero_le i) (by omega)
  have h6 := h.le (i := i + 1) (j := n) (by omega) (Nat.le_refl _)
  exact (h.row i hi').touch ht h.lt (by omega) (by omega)
theorem SvRow.below {lo hi : Nat} {w w' : World} {b off n : Nat} {c : Nat → Nat} {X : Nat → Sv} (h : SvRow lo hi w b off n c X) (ht : Below w.heap.size w w') : SvRow lo hi w' b off n c X :=
  ⟨Nat.lt_of_lt_of_le h.lt ht.size, h.low, h.bc, h.bh, h.mono, h.top, fun i => (ht.frozen (p := ⟨b, i, none⟩) h.lt).trans (h.frz i), fun i hi' => (h.row i hi').below ht h.lt⟩
theorem SvRow.to {lo hi : Nat} {w : World} {b off n : Nat} {c : Nat → Nat} {X Y : Nat → Sv} (h : SvRow lo hi w b off n c X) (e : ∀ i, i < n → X i = Y i) : SvRow lo hi w b off n c Y :=
  ⟨h.lt, h.low, h.bc, h.bh, h.mono, h.top, h.frz, fun i hi' => e i hi' ▸ h.row i hi'⟩
/-- a list of one's own -/
def SvsOwn (lo hi : Nat) (w : World) (v : Value) (Xl : List Sv) : Prop :=
  (∃ (a : Option Addr) (cap : Nat), v = .slice a 0 cap ∧ Xl = []) ∨
  ∃ (b off cap : Nat) (c : Nat → Nat) (X : Nat → Sv), v = .slice (some ⟨b, off, none⟩) Xl.length cap ∧ Xl ≠ [] ∧ Xl.length ≤ maxLen ∧ Xl.length ≤ cap ∧ (∀ i (h : i < Xl.length), X i = Xl[i]) ∧ SvRow lo hi w b off Xl.length c X
theorem SvsOwn.touch {lo hi lo' hi' : Nat} {w w' : World} {v : Value} {Xl : List Sv} (h : SvsOwn lo hi w v Xl) (ht : Touch lo' hi' w w') (ho : hi ≤ lo' ∨ hi' ≤ lo) : SvsOwn lo hi w' v Xl := by
  rcases h with h | ⟨b, off, cap, c, X, h1, h2, h3, h4, h5, h6⟩
  · exact Or.inl h
  · exact Or.inr ⟨b, off, cap, c, X, h1, h2, h3, h4, h5, h6.touch ht ho⟩
theorem SvsOwn.below {lo hi : Nat} {w w' : World} {v : Value} {Xl : List Sv} (h : SvsOwn lo hi w v Xl) (ht : Below w.heap.size w w') : SvsOwn lo hi w' v Xl := by
  rcases h with h | ⟨b, off, cap, c, X, h1, h2, h3, h4, h5, h6⟩
  · exact Or.inl h
  · exact Or.inr ⟨b, off, cap, c, X, h1, h2, h3, h4, h5, h6.below ht⟩
theorem SvsOwn.form {lo hi : Nat} {w : World} {v : Value} {Xl : List Sv} (h : SvsOwn lo hi w v Xl) : ∃ a cap, v = .slice a Xl.length cap := by
  rcases h with ⟨a, cap, h, rfl⟩ | ⟨b, off, cap, c, X, h1, _⟩
  · exact ⟨a, cap, h⟩
  · exact ⟨_, cap, h1⟩
theorem SvsOwn.at {lo hi : Nat} {w : World} {v : Value} {Xl : List Sv} (h : SvsOwn lo hi w v Xl) : SvsAt lo w v Xl := by
  rcases h with h | ⟨b, off, cap, c, X, h1, h2, h3, h4, h5, h6⟩
  · exact Or.inl h
  · refine Or.inr ⟨b, off, cap, h1, h2, h3, h6.lt, h6.low, h4, fun i hi' => ?_⟩
    have hr := h6.row i hi'
    rw [h5 i hi'] at hr
    obtain ⟨hs, hc⟩ := hr
    exact ⟨hs, hc⟩
/-- marks from k on -/
def mkSv (k : Int) (_x : Sv) : Sv := ⟨mtB (k), k + 1, ((k + 1 + 1) % 3 == 0), k + 1 + 1 + 1, k + 1 + 1 + 1 + 1, k + 1 + 1 + 1 + 1 + 1, k + 1 + 1 + 1 + 1 + 1 + 1, k + 1 + 1 + 1 + 1 + 1 + 1 + 1, k + 1 + 1 + 1 + 1 + 1 + 1 + 1 + 1, k + 1 + 1 + 1 + 1 + 1 + 1 + 1 + 1 + 1, k + 1 + 1 + 1 + 1 + 1 + 1 + 1 + 1 + 1 + 1, k + 1 + 1 + 1 + 1 + 1 + 1 + 1 + 1 + 1 + 1 + 1, k + 1 + 1 + 1 + 1 + 1 + 1 + 1 + 1 + 1 + 1 + 1 + 1⟩
def wdSv (_x : Sv) : Nat := 13
def posSv (Xl : List Sv) (i : Nat) : Nat := ((Xl.take i).map wdSv).sum
def mkSvs (k : Int) (Xl : List Sv) : List Sv := Xl.mapIdx (fun i x => mkSv (k + (posSv Xl i : Int)) x)
theorem mkSvs_len (k : Int) (Xl : List Sv) : (mkSvs k Xl).length = Xl.length := by unfold mkSvs; simp
theorem mkSvs_get (k : Int) (Xl : List Sv) (i : Nat) (h : i < (mkSvs k Xl).length) (h' : i < Xl.length) : (mkSvs k Xl)[i] = mkSv (k + (posSv Xl i : Int)) Xl[i] := List.getElem_mapIdx (f := fun i x => mkSv (k + (posSv Xl i : Int)) x) (h := h)
theorem posSv_succ {Xl : List Sv} {i : Nat} (h : i < Xl.length) : posSv Xl (i + 1) = posSv Xl i + wdSv Xl[i] := by
  unfold posSv
  rw [List.take_succ_eq_append_getElem h, List.map_append, List.sum_append]
  simp
theorem posSv_le {Xl : List Sv} (_hn : SvsSmall Xl) : ∀ {i : Nat}, i ≤ Xl.length → posSv Xl i ≤ i * 3000000 := by
  intro i
  induction i with
  | zero => intro _; simp [posSv]
  | succ i ih =>
    intro hi'
    have h1 := ih (by omega)
    rw [posSv_succ (by omega)]
    have h2 : wdSv Xl[i] ≤ 3000000 := by
      unfold wdSv
      omega
    omega
theorem posSv_all {Xl : List Sv} {i : Nat} (h : Xl.length ≤ i) : posSv Xl i = posSv Xl Xl.length := by
  unfold posSv
  rw [List.take_of_length_le h, List.take_of_length_le (Nat.le_refl _)]
structure SvSt (wr : World) (b o c0 c1 : Nat) (v : World) (y : Sv) : Prop where
  near : Near b o 13 c0 c1 wr v
  bc : b < c0
  cells : SvCells v b o y
  frz : ∀ i, v.frozen? ⟨b, i, none⟩ = false
  lt : b < v.heap.size
theorem SvSt.below {wr : World} {b o c0 c1 : Nat} {v v' : World} {y : Sv} (h : SvSt wr b o c0 c1 v y) (hb : Below v.heap.size v v') : SvSt wr b o c0 c1 v' y :=
  ⟨h.near.trans (Near.below hb h.lt), h.bc, h.cells.below hb h.lt, fun i => (hb.frozen (p := ⟨b, i, none⟩) h.lt).trans (h.frz i), Nat.lt_of_lt_of_le h.lt hb.size⟩
theorem SvSt.s0 {wr : World} {b o c0 c1 : Nat} {v : World} {y : Sv} (h : SvSt wr b o c0 c1 v y) (u : ByteArray) : SvSt wr b o c0 c1 (v.setCell ⟨b, o, none⟩ (.string u)) { y with nm := u } := by
  obtain ⟨h0, h1, h2, h3, h4, h5, h6, h7, h8, h9, h10, h11, h12⟩ := h.cells
  have ht : Touch b (b + 1) v (v.setCell ⟨b, o, none⟩ (.string u)) := Touch.setCell _ _ _ _ _ ⟨Nat.le_refl _, by simp only []; omega⟩
  have hbc := h.bc
  exact ⟨h.near.trans (Near.set _ _ _ _ _ _ _ _ (by omega) (by omega)), h.bc, ⟨World.cell?_setCell_same' _ _ _ (by rw [h0]; rfl), (cne (by omega)).trans h1, (cne (by omega)).trans h2, (cne (by omega)).trans h3, (cne (by omega)).trans h4, (cne (by omega)).trans h5, (cne (by omega)).trans h6, (cne (by omega)).trans h7, (cne (by omega)).trans h8, (cne (by omega)).trans h9, (cne (by omega)).trans h10, (cne (by omega)).trans h11, (cne (by omega)).trans h12⟩, fun i => by rw [World.frozen?_setCell]; exact h.frz i, by simpa [World.setCell] using h.lt⟩
theorem SvSt.s1 {wr : World} {b o c0 c1 : Nat} {v : World} {y : Sv} (h : SvSt wr b o c0 c1 v y) (u : Int) : SvSt wr b o c0 c1 (v.setCell ⟨b, o + 1, none⟩ (.int .i64 u)) { y with ve := u } := by
  obtain ⟨h0, h1, h2, h3, h4, h5, h6, h7, h8, h9, h10, h11, h12⟩ := h.cells
  have ht : Touch b (b + 1) v (v.setCell ⟨b, o + 1, none⟩ (.int .i64 u)) := Touch.setCell _ _ _ _ _ ⟨Nat.le_refl _, by simp only []; omega⟩
  have hbc := h.bc
  exact ⟨h.near.trans (Near.set _ _ _ _ _ _ _ _ (by omega) (by omega)), h.bc, ⟨(cne (by omega)).trans h0, World.cell?_setCell_same' _ _ _ (by rw [h1]; rfl), (cne (by omega)).trans h2, (cne (by omega)).trans h3, (cne (by omega)).trans h4, (cne (by omega)).trans h5, (cne (by omega)).trans h6, (cne (by omega)).trans h7, (cne (by omega)).trans h8, (cne (by omega)).trans h9, (cne (by omega)).trans h10, (cne (by omega)).trans h11, (cne (by omega)).trans h12⟩, fun i => by rw [World.frozen?_setCell]; exact h.frz i, by simpa [World.setCell] using h.lt⟩
theorem SvSt.s2 {wr : World} {b o c0 c1 : Nat} {v : World} {y : Sv} (h : SvSt wr b o c0 c1 v y) (u : Bool) : SvSt wr b o c0 c1 (v.setCell ⟨b, o + 2, none⟩ (.bool u)) { y with gn := u } := by
  obtain ⟨h0, h1, h2, h3, h4, h5, h6, h7, h8, h9, h10, h11, h12⟩ := h.cells
  have ht : Touch b (b + 1) v (v.setCell ⟨b, o + 2, none⟩ (.bool u)) := Touch.setCell _ _ _ _ _ ⟨Nat.le_refl _, by simp only []; omega⟩
  have hbc := h.bc
  exact ⟨h.near.trans (Near.set _ _ _ _ _ _ _ _ (by omega) (by omega)), h.bc, ⟨(cne (by omega)).trans h0, (cne (by omega)).trans h1, World.cell?_setCell_same' _ _ _ (by rw [h2]; rfl), (cne (by omega)).trans h3, (cne (by omega)).trans h4, (cne (by omega)).trans h5, (cne (by omega)).trans h6, (cne (by omega)).trans h7, (cne (by omega)).trans h8, (cne (by omega)).trans h9, (cne (by omega)).trans h10, (cne (by omega)).trans h11, (cne (by omega)).trans h12⟩, fun i => by rw [World.frozen?_setCell]; exact h.frz i, by simpa [World.setCell] using h.lt⟩
theorem SvSt.s3 {wr : World} {b o c0 c1 : Nat} {v : World} {y : Sv} (h : SvSt wr b o c0 c1 v y) (u : Int) : SvSt wr b o c0 c1 (v.setCell ⟨b, o + 3, none⟩ (.int .i64 u)) { y with im := u } := by
  obtain ⟨h0, h1, h2, h3, h4, h5, h6, h7, h8, h9, h10, h11, h12⟩ := h.cells
  have ht : Touch b (b + 1) v (v.setCell ⟨b, o + 3, none⟩ (.int .i64 u)) := Touch.setCell _ _ _ _ _ ⟨Nat.le_refl _, by simp only []; omega⟩
  have hbc := h.bc
  exact ⟨h.near.trans (Near.set _ _ _ _ _ _ _ _ (by omega) (by omega)), h.bc, ⟨(cne (by omega)).trans h0, (cne (by omega)).trans h1, (cne (by omega)).trans h2, World.cell?_setCell_same' _ _ _ (by rw [h3]; rfl), (cne (by omega)).trans h4, (cne (by omega)).trans h5, (cne (by omega)).trans h6, (cne (by omega)).trans h7, (cne (by omega)).trans h8, (cne (by omega)).trans h9, (cne (by omega)).trans h10, (cne (by omega)).trans h11, (cne (by omega)).trans h12⟩, fun i => by rw [World.frozen?_setCell]; exact h.frz i, by simpa [World.setCell] using h.lt⟩
theorem SvSt.s4 {wr : World} {b o c0 c1 : Nat} {v : World} {y : Sv} (h : SvSt wr b o c0 c1 v y) (u : Int) : SvSt wr b o c0 c1 (v.setCell ⟨b, o + 4, none⟩ (.int .i64 u)) { y with wa := u } := by
  obtain ⟨h0, h1, h2, h3, h4, h5, h6, h7, h8, h9, h10, h11, h12⟩ := h.cells
  have ht : Touch b (b + 1) v (v.setCell ⟨b, o + 4, none⟩ (.int .i64 u)) := Touch.setCell _ _ _ _ _ ⟨Nat.le_refl _, by simp only []; omega⟩
  have hbc := h.bc
  exact ⟨h.near.trans (Near.set _ _ _ _ _ _ _ _ (by omega) (by omega)), h.bc, ⟨(cne (by omega)).trans h0, (cne (by omega)).trans h1, (cne (by omega)).trans h2, (cne (by omega)).trans h3, World.cell?_setCell_same' _ _ _ (by rw [h4]; rfl), (cne (by omega)).trans h5, (cne (by omega)).trans h6, (cne (by omega)).trans h7, (cne (by omega)).trans h8, (cne (by omega)).trans h9, (cne (by omega)).trans h10, (cne (by omega)).trans h11, (cne (by omega)).trans h12⟩, fun i => by rw [World.frozen?_setCell]; exact h.frz i, by simpa [World.setCell] using h.lt⟩
theorem SvSt.s5 {wr : World} {b o c0 c1 : Nat} {v : World} {y : Sv} (h : SvSt wr b o c0 c1 v y) (u : Int) : SvSt wr b o c0 c1 (v.setCell ⟨b, o + 5, none⟩ (.int .i64 u)) { y with dn := u } := by
  obtain ⟨h0, h1, h2, h3, h4, h5, h6, h7, h8, h9, h10, h11, h12⟩ := h.cells
  have ht : Touch b (b + 1) v (v.setCell ⟨b, o + 5, none⟩ (.int .i64 u)) := Touch.setCell _ _ _ _ _ ⟨Nat.le_refl _, by simp only []; omega⟩
  have hbc := h.bc
  exact ⟨h.near.trans (Near.set _ _ _ _ _ _ _ _ (by omega) (by omega)), h.bc, ⟨(cne (by omega)).trans h0, (cne (by omega)).trans h1, (cne (by omega)).trans h2, (cne (by omega)).trans h3, (cne (by omega)).trans h4, World.cell?_setCell_same' _ _ _ (by rw [h5]; rfl), (cne (by omega)).trans h6, (cne (by omega)).trans h7, (cne (by omega)).trans h8, (cne (by omega)).trans h9, (cne (by omega)).trans h10, (cne (by omega)).trans h11, (cne (by omega)).trans h12⟩, fun i => by rw [World.frozen?_setCell]; exact h.frz i, by simpa [World.setCell] using h.lt⟩
theorem SvSt.s6 {wr : World} {b o c0 c1 : Nat} {v : World} {y : Sv} (h : SvSt wr b o c0 c1 v y) (u : Int) : SvSt wr b o c0 c1 (v.setCell ⟨b, o + 6, none⟩ (.int .i64 u)) { y with ov := u } := by
  obtain ⟨h0, h1, h2, h3, h4, h5, h6, h7, h8, h9, h10, h11, h12⟩ := h.cells
  have ht : Touch b (b + 1) v (v.setCell ⟨b, o + 6, none⟩ (.int .i64 u)) := Touch.setCell _ _ _ _ _ ⟨Nat.le_refl _, by simp only []; omega⟩
  have hbc := h.bc
  exact ⟨h.near.trans (Near.set _ _ _ _ _ _ _ _ (by omega) (by omega)), h.bc, ⟨(cne (by omega)).trans h0, (cne (by omega)).trans h1, (cne (by omega)).trans h2, (cne (by omega)).trans h3, (cne (by omega)).trans h4, (cne (by omega)).trans h5, World.cell?_setCell_same' _ _ _ (by rw [h6]; rfl), (cne (by omega)).trans h7, (cne (by omega)).trans h8, (cne (by omega)).trans h9, (cne (by omega)).trans h10, (cne (by omega)).trans h11, (cne (by omega)).trans h12⟩, fun i => by rw [World.frozen?_setCell]; exact h.frz i, by simpa [World.setCell] using h.lt⟩
theorem SvSt.s7 {wr : World} {b o c0 c1 : Nat} {v : World} {y : Sv} (h : SvSt wr b o c0 c1 v y) (u : Int) : SvSt wr b o c0 c1 (v.setCell ⟨b, o + 7, none⟩ (.int .i64 u)) { y with nx := u } := by
  obtain ⟨h0, h1, h2, h3, h4, h5, h6, h7, h8, h9, h10, h11, h12⟩ := h.cells
  have ht : Touch b (b + 1) v (v.setCell ⟨b, o + 7, none⟩ (.int .i64 u)) := Touch.setCell _ _ _ _ _ ⟨Nat.le_refl _, by simp only []; omega⟩
  have hbc := h.bc
  exact ⟨h.near.trans (Near.set _ _ _ _ _ _ _ _ (by omega) (by omega)), h.bc, ⟨(cne (by omega)).trans h0, (cne (by omega)).trans h1, (cne (by omega)).trans h2, (cne (by omega)).trans h3, (cne (by omega)).trans h4, (cne (by omega)).trans h5, (cne (by omega)).trans h6, World.cell?_setCell_same' _ _ _ (by rw [h7]; rfl), (cne (by omega)).trans h8, (cne (by omega)).trans h9, (cne (by omega)).trans h10, (cne (by omega)).trans h11, (cne (by omega)).trans h12⟩, fun i => by rw [World.frozen?_setCell]; exact h.frz i, by simpa [World.setCell] using h.lt⟩
theorem SvSt.s8 {wr : World} {b o c0 c1 : Nat} {v : World} {y : Sv} (h : SvSt wr b o c0 c1 v y) (u : Int) : SvSt wr b o c0 c1 (v.setCell ⟨b, o + 8, none⟩ (.int .i64 u)) { y with pr := u } := by
  obtain ⟨h0, h1, h2, h3, h4, h5, h6, h7, h8, h9, h10, h11, h12⟩ := h.cells
  have ht : Touch b (b + 1) v (v.setCell ⟨b, o + 8, none⟩ (.int .i64 u)) := Touch.setCell _ _ _ _ _ ⟨Nat.le_refl _, by simp only []; omega⟩
  have hbc := h.bc
  exact ⟨h.near.trans (Near.set _ _ _ _ _ _ _ _ (by omega) (by omega)), h.bc, ⟨(cne (by omega)).trans h0, (cne (by omega)).trans h1, (cne (by omega)).trans h2, (cne (by omega)).trans h3, (cne (by omega)).trans h4, (cne (by omega)).trans h5, (cne (by omega)).trans h6, (cne (by omega)).trans h7, World.cell?_setCell_same' _ _ _ (by rw [h8]; rfl), (cne (by omega)).trans h9, (cne (by omega)).trans h10, (cne (by omega)).trans h11, (cne (by omega)).trans h12⟩, fun i => by rw [World.frozen?_setCell]; exact h.frz i, by simpa [World.setCell] using h.lt⟩
theorem SvSt.s9 {wr : World} {b o c0 c1 : Nat} {v : World} {y : Sv} (h : SvSt wr b o c0 c1 v y) (u : Int) : SvSt wr b o c0 c1 (v.setCell ⟨b, o + 9, none⟩ (.int .i64 u)) { y with ls := u } := by
  obtain ⟨h0, h1, h2, h3, h4, h5, h6, h7, h8, h9, h10, h11, h12⟩ := h.cells
  have ht : Touch b (b + 1) v (v.setCell ⟨b, o + 9, none⟩ (.int .i64 u)) := Touch.setCell _ _ _ _ _ ⟨Nat.le_refl _, by simp only []; omega⟩
  have hbc := h.bc
  exact ⟨h.near.trans (Near.set _ _ _ _ _ _ _ _ (by omega) (by omega)), h.bc, ⟨(cne (by omega)).trans h0, (cne (by omega)).trans h1, (cne (by omega)).trans h2, (cne (by omega)).trans h3, (cne (by omega)).trans h4, (cne (by omega)).trans h5, (cne (by omega)).trans h6, (cne (by omega)).trans h7, (cne (by omega)).trans h8, World.cell?_setCell_same' _ _ _ (by rw [h9]; rfl), (cne (by omega)).trans h10, (cne (by omega)).trans h11, (cne (by omega)).trans h12⟩, fun i => by rw [World.frozen?_setCell]; exact h.frz i, by simpa [World.setCell] using h.lt⟩
theorem SvSt.s10 {wr : World} {b o c0 c1 : Nat} {v : World} {y : Sv} (h : SvSt wr b o c0 c1 v y) (u : Int) : SvSt wr b o c0 c1 (v.setCell ⟨b, o + 10, none⟩ (.int .i64 u)) { y with ms := u } := by
  obtain ⟨h0, h1, h2, h3, h4, h5, h6, h7, h8, h9, h10, h11, h12⟩ := h.cells
  have ht : Touch b (b + 1) v (v.setCell ⟨b, o + 10, none⟩ (.int .i64 u)) := Touch.setCell _ _ _ _ _ ⟨Nat.le_refl _, by simp only []; omega⟩
  have hbc := h.bc
  exact ⟨h.near.trans (Near.set _ _ _ _ _ _ _ _ (by omega) (by omega)), h.bc, ⟨(cne (by omega)).trans h0, (cne (by omega)).trans h1, (cne (by omega)).trans h2, (cne (by omega)).trans h3, (cne (by omega)).trans h4, (cne (by omega)).trans h5, (cne (by omega)).trans h6, (cne (by omega)).trans h7, (cne (by omega)).trans h8, (cne (by omega)).trans h9, World.cell?_setCell_same' _ _ _ (by rw [h10]; rfl), (cne (by omega)).trans h11, (cne (by omega)).trans h12⟩, fun i => by rw [World.frozen?_setCell]; exact h.frz i, by simpa [World.setCell] using h.lt⟩
theorem SvSt.s11 {wr : World} {b o c0 c1 : Nat} {v : World} {y : Sv} (h : SvSt wr b o c0 c1 v y) (u : Int) : SvSt wr b o c0 c1 (v.setCell ⟨b, o + 11, none⟩ (.int .i64 u)) { y with ld := u } := by
  obtain ⟨h0, h1, h2, h3, h4, h5, h6, h7, h8, h9, h10, h11, h12⟩ := h.cells
  have ht : Touch b (b + 1) v (v.setCell ⟨b, o + 11, none⟩ (.int .i64 u)) := Touch.setCell _ _ _ _ _ ⟨Nat.le_refl _, by simp only []; omega⟩
  have hbc := h.bc
  exact ⟨h.near.trans (Near.set _ _ _ _ _ _ _ _ (by omega) (by omega)), h.bc, ⟨(cne (by omega)).trans h0, (cne (by omega)).trans h1, (cne (by omega)).trans h2, (cne (by omega)).trans h3, (cne (by omega)).trans h4, (cne (by omega)).trans h5, (cne (by omega)).trans h6, (cne (by omega)).trans h7, (cne (by omega)).trans h8, (cne (by omega)).trans h9, (cne (by omega)).trans h10, World.cell?_setCell_same' _ _ _ (by rw [h11]; rfl), (cne (by omega)).trans h12⟩, fun i => by rw [World.frozen?_setCell]; exact h.frz i, by simpa [World.setCell] using h.lt⟩
theorem SvSt.s12 {wr : World} {b o c0 c1 : Nat} {v : World} {y : Sv} (h : SvSt wr b o c0 c1 v y) (u : Int) : SvSt wr b o c0 c1 (v.setCell ⟨b, o + 12, none⟩ (.int .i64 u)) { y with cl := u } := by
  obtain ⟨h0, h1, h2, h3, h4, h5, h6, h7, h8, h9, h10, h11, h12⟩ := h.cells
  have ht : Touch b (b + 1) v (v.setCell ⟨b, o + 12, none⟩ (.int .i64 u)) := Touch.setCell _ _ _ _ _ ⟨Nat.le_refl _, by simp only []; omega⟩
  have hbc := h.bc
  exact ⟨h.near.trans (Near.set _ _ _ _ _ _ _ _ (by omega) (by omega)), h.bc, ⟨(cne (by omega)).trans h0, (cne (by omega)).trans h1, (cne (by omega)).trans h2, (cne (by omega)).trans h3, (cne (by omega)).trans h4, (cne (by omega)).trans h5, (cne (by omega)).trans h6, (cne (by omega)).trans h7, (cne (by omega)).trans h8, (cne (by omega)).trans h9, (cne (by omega)).trans h10, (cne (by omega)).trans h11, World.cell?_setCell_same' _ _ _ (by rw [h12]; rfl)⟩, fun i => by rw [World.frozen?_setCell]; exact h.frz i, by simpa [World.setCell] using h.lt⟩
end Go.Proofs.YtpdlcccnlciecaaGreat
