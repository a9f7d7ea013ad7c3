import Derived.Test.YtdeammfdkaomlaaGreatV15
import Derived.Test.YtdeammfdkaomlaaGreatV18
namespace Go.Proofs.YtdeammfdkaomlaaGreat
open Go.RowKit Go.Deep

def TmSmall (_ : Tm) : Prop := True
def TmsSmall (Xl : List Tm) : Prop := Xl.length ≤ 1048576 ∧ ∀ i (h : i < Xl.length), TmSmall Xl[i]
theorem TmsSmall.of {Xl : List Tm} (h : Xl.length ≤ 1048576) : TmsSmall Xl := ⟨h, fun _ _ => trivial⟩
def TmOne (b o _c0 _c1 : Nat) (w : World) (x : Tm) : Prop := TmSize x ∧ TmCells w b o x
theorem TmOne.near {b o c0 c1 o1 d0 d1 : Nat} {w w' : World} {x : Tm} (h : TmOne b o c0 c1 w x) (hn : Near b o1 2 d0 d1 w w') (ho : o + 2 ≤ o1 ∨ o1 + 2 ≤ o) (hi : c1 ≤ d0 ∨ d1 ≤ c0) (hb : b < c0 ∨ c1 ≤ b) : TmOne b o c0 c1 w' x := by
  obtain ⟨hs, hc⟩ := h
  obtain ⟨h0, h1⟩ := hc
  have e : ∀ t, t < 2 → w'.cell? ⟨b, o + t, none⟩ = w.cell? ⟨b, o + t, none⟩ := fun t ht => hn.cell _ (by omega)
  have e0 : w'.cell? ⟨b, o, none⟩ = w.cell? ⟨b, o, none⟩ := hn.cell _ (by omega)
  exact ⟨hs, ⟨e0.trans h0, (e 1 (by omega)).trans h1⟩⟩
theorem TmOne.touch {b o c0 c1 : Nat} {lo hi : Nat} {w w' : World} {x : Tm} (h : TmOne b o c0 c1 w x) (ht : Touch lo hi w w') (hlt : b < w.heap.size) (hb : b < lo ∨ hi ≤ b) (_hi : c1 ≤ lo ∨ hi ≤ c0) : TmOne b o c0 c1 w' x := by
  obtain ⟨hs, hc⟩ := h
  obtain ⟨h0, h1⟩ := hc
  exact ⟨hs, ⟨(ht.cell (p := ⟨b, o, none⟩) hlt hb).trans h0, (ht.cell (p := ⟨b, o + 1, none⟩) hlt hb).trans h1⟩⟩
theorem TmOne.below {b o c0 c1 : Nat}  {w w' : World} {x : Tm} (h : TmOne b o c0 c1 w x) (ht : Below w.heap.size w w') (hlt : b < w.heap.size) : TmOne b o c0 c1 w' x := by
  obtain ⟨hs, hc⟩ := h
  obtain ⟨h0, h1⟩ := hc
  exact ⟨hs, ⟨(ht.cell (p := ⟨b, o, none⟩) hlt).trans h0, (ht.cell (p := ⟨b, o + 1, none⟩) hlt).trans h1⟩⟩
structure TmRow (lo hi : Nat) (w : World) (b off n : Nat) (c : Nat → Nat) (X : Nat → Tm) : Prop where
  lt : b < w.heap.size
  low : lo ≤ b
  bc : b < c 0
  bh : b < hi
  mono : ∀ i, i < n → c i ≤ c (i + 1)
  top : c n ≤ hi
  frz : ∀ i, w.frozen? ⟨b, i, none⟩ = false
  row : ∀ i, i < n → TmOne b (off + i * 2) (c i) (c (i + 1)) w (X i)
theorem TmRow.le {lo hi : Nat} {w : World} {b off n : Nat} {c : Nat → Nat} {X : Nat → Tm} (h : TmRow lo hi w b off n c X) {i : Nat} : ∀ {j : Nat}, i ≤ j → j ≤ n → c i ≤ c j := by
  intro j
  induction j with
  | zero => intro hij _; have : i = 0 := by omega
            subst this; exact Nat.le_refl _
  | succ j ih =>
    intro hij hjn
    by_cases e : i = j + 1
    · subst e; exact Nat.le_refl _
    · exact Nat.le_trans (ih (by omega) (by omega)) (h.mono j (by omega))
theorem TmRow.near {lo hi : Nat} {w w' : World} {b off n : Nat} {c : Nat → Nat} {X : Nat → Tm} (h : TmRow lo hi w b off n c X) {j : Nat} (hj : j < n) (hn : Near b (off + j * 2) 2 (c j) (c (j + 1)) w w') {x : Tm} (hx : TmOne b (off + j * 2) (c j) (c (j + 1)) w' x) : TmRow lo hi w' b off n c (fun i => if i = j then x else X i) := by
  refine ⟨Nat.lt_of_lt_of_le h.lt hn.size, h.low, h.bc, h.bh, h.mono, h.top, fun i => (hn.frz i).trans (h.frz i), fun i hi' => ?_⟩
  by_cases e : i = j
  · subst e; rw [if_pos rfl]; exact hx
  · rw [if_neg e]
    have h0 := h.le (Nat.zero_le i) (by omega)
    have hbc := h.bc
    refine (h.row i hi').near hn (by omega) ?_ (by omega)
    rcases Nat.lt_or_ge i j with hij | hij
    · exact Or.inl (h.le (by omega) (by omega))
    · exact Or.inr (h.le (by omega) (by omega))
theorem TmRow.touch {lo hi lo' hi' : Nat} {w w' : World} {b off n : Nat} {c : Nat → Nat} {X : Nat → Tm} (h : TmRow lo hi w b off n c X) (ht : Touch lo' hi' w w') (ho : hi ≤ lo' ∨ hi' ≤ lo) : TmRow lo hi w' b off n c X := by
  have h1 := h.low
  have h2 := h.bh
  have h3 := h.top
  have h4 := h.bc
  refine ⟨Nat.lt_of_lt_of_le h.lt ht.size, h.low, h.bc, h.bh, h.mono, h.top, fun i => (ht.frozen (p := ⟨b, i, none⟩) h.lt (by simp only []; omega)).trans (h.frz i), fun i hi' => ?_⟩
  have h5 := h.le (Nat.zero_le i) (by omega)
  have h6 := h.le (i := i + 1) (j := n) (by omega) (Nat.le_refl _)
  exact (h.row i hi').touch ht h.lt (by omega) (by omega)
theorem TmRow.below {lo hi : Nat} {w w' : World} {b off n : Nat} {c : Nat → Nat} {X : Nat → Tm} (h : TmRow lo hi w b off n c X) (ht : Below w.heap.size w w') : TmRow lo hi w' b off n c X :=
  ⟨Nat.lt_of_lt_of_le h.lt ht.size, h.low, h.bc, h.bh, h.mono, h.top, fun i => (ht.frozen (p := ⟨b, i, none⟩) h.lt).trans (h.frz i), fun i hi' => (h.row i hi').below ht h.lt⟩
theorem TmRow.to {lo hi : Nat} {w : World} {b off n : Nat} {c : Nat → Nat} {X Y : Nat → Tm} (h : TmRow lo hi w b off n c X) (e : ∀ i, i < n → X i = Y i) : TmRow lo hi w b off n c Y :=
  ⟨h.lt, h.low, h.bc, h.bh, h.mono, h.top, h.frz, fun i hi' => e i hi' ▸ h.row i hi'⟩
/-- a list of one's own -/
def TmsOwn (lo hi : Nat) (w : World) (v : Value) (Xl : List Tm) : Prop :=
  (∃ (a : Option Addr) (cap : Nat), v = .slice a 0 cap ∧ Xl = []) ∨
  ∃ (b off cap : Nat) (c : Nat → Nat) (X : Nat → Tm), v = .slice (some ⟨b, off, none⟩) Xl.length cap ∧ Xl ≠ [] ∧ Xl.length ≤ maxLen ∧ Xl.length ≤ cap ∧ (∀ i (h : i < Xl.length), X i = Xl[i]) ∧ TmRow lo hi w b off Xl.length c X
theorem TmsOwn.touch {lo hi lo' hi' : Nat} {w w' : World} {v : Value} {Xl : List Tm} (h : TmsOwn lo hi w v Xl) (ht : Touch lo' hi' w w') (ho : hi ≤ lo' ∨ hi' ≤ lo) : TmsOwn lo hi w' v Xl := by
  rcases h with h | ⟨b, off, cap, c, X, h1, h2, h3, h4, h5, h6⟩
  · exact Or.inl h
  · exact Or.inr ⟨b, off, cap, c, X, h1, h2, h3, h4, h5, h6.touch ht ho⟩
theorem TmsOwn.below {lo hi : Nat} {w w' : World} {v : Value} {Xl : List Tm} (h : TmsOwn lo hi w v Xl) (ht : Below w.heap.size w w') : TmsOwn lo hi w' v Xl := by
  rcases h with h | ⟨b, off, cap, c, X, h1, h2, h3, h4, h5, h6⟩
  · exact Or.inl h
  · exact Or.inr ⟨b, off, cap, c, X, h1, h2, h3, h4, h5, h6.below ht⟩
theorem TmsOwn.form {lo hi : Nat} {w : World} {v : Value} {Xl : List Tm} (h : TmsOwn lo hi w v Xl) : ∃ a cap, v = .slice a Xl.length cap := by
  rcases h with ⟨a, cap, h, rfl⟩ | ⟨b, off, cap, c, X, h1, _⟩
  · exact ⟨a, cap, h⟩
  · exact ⟨_, cap, h1⟩
theorem TmsOwn.at {lo hi : Nat} {w : World} {v : Value} {Xl : List Tm} (h : TmsOwn lo hi w v Xl) : TmsAt lo w v Xl := by
  rcases h with h | ⟨b, off, cap, c, X, h1, h2, h3, h4, h5, h6⟩
  · exact Or.inl h
  · refine Or.inr ⟨b, off, cap, h1, h2, h3, h6.lt, h6.low, h4, fun i hi' => ?_⟩
    have hr := h6.row i hi'
    rw [h5 i hi'] at hr
    obtain ⟨hs, hc⟩ := hr
    exact ⟨hs, hc⟩
/-- marks from k on -/
def mkTm (k : Int) (_x : Tm) : Tm := ⟨mtB (k), mtB (k + 1)⟩
def wdTm (_x : Tm) : Nat := 2
def posTm (Xl : List Tm) (i : Nat) : Nat := ((Xl.take i).map wdTm).sum
def mkTms (k : Int) (Xl : List Tm) : List Tm := Xl.mapIdx (fun i x => mkTm (k + (posTm Xl i : Int)) x)
theorem mkTms_len (k : Int) (Xl : List Tm) : (mkTms k Xl).length = Xl.length := by unfold mkTms; simp
theorem mkTms_get (k : Int) (Xl : List Tm) (i : Nat) (h : i < (mkTms k Xl).length) (h' : i < Xl.length) : (mkTms k Xl)[i] = mkTm (k + (posTm Xl i : Int)) Xl[i] := List.getElem_mapIdx (f := fun i x => mkTm (k + (posTm Xl i : Int)) x) (h := h)
theorem posTm_succ {Xl : List Tm} {i : Nat} (h : i < Xl.length) : posTm Xl (i + 1) = posTm Xl i + wdTm Xl[i] := by
  unfold posTm
  rw [List.take_succ_eq_append_getElem h, List.map_append, List.sum_append]
  simp
theorem posTm_le {Xl : List Tm} (hn : TmsSmall Xl) : ∀ {i : Nat}, i ≤ Xl.length → posTm Xl i ≤ i * 3000000 := by
  intro i
  induction i with
  | zero => intro _; simp [posTm]
  | succ i ih =>
    intro hi'
    have h1 := ih (by omega)
    rw [posTm_succ (by omega)]
    have h2 : wdTm Xl[i] ≤ 3000000 := by
      have hsm := hn.2 i (by omega)
      unfold TmSmall at hsm
      unfold wdTm
      omega
    omega
structure TmSt (wr : World) (b o c0 c1 : Nat) (v : World) (y : Tm) : Prop where
  near : Near b o 2 c0 c1 wr v
  bc : b < c0
  cells : TmCells v b o y
  frz : ∀ i, v.frozen? ⟨b, i, none⟩ = false
  lt : b < v.heap.size
theorem TmSt.below {wr : World} {b o c0 c1 : Nat} {v v' : World} {y : Tm} (h : TmSt wr b o c0 c1 v y) (hb : Below v.heap.size v v') : TmSt wr b o c0 c1 v' y :=
  ⟨h.near.trans (Near.below hb h.lt), h.bc, h.cells.below hb h.lt, fun i => (hb.frozen (p := ⟨b, i, none⟩) h.lt).trans (h.frz i), Nat.lt_of_lt_of_le h.lt hb.size⟩
theorem TmSt.s0 {wr : World} {b o c0 c1 : Nat} {v : World} {y : Tm} (h : TmSt wr b o c0 c1 v y) (u : ByteArray) : TmSt wr b o c0 c1 (v.setCell ⟨b, o, none⟩ (.string u)) { y with nm := u } := by
  obtain ⟨h0, h1⟩ := h.cells
  have ht : Touch b (b + 1) v (v.setCell ⟨b, o, none⟩ (.string u)) := Touch.setCell _ _ _ _ _ ⟨Nat.le_refl _, by simp only []; omega⟩
  have hbc := h.bc
  exact ⟨h.near.trans (Near.set _ _ _ _ _ _ _ _ (by omega) (by omega)), h.bc, ⟨World.cell?_setCell_same' _ _ _ (by rw [h0]; rfl), (cne (by omega)).trans h1⟩, fun i => by rw [World.frozen?_setCell]; exact h.frz i, by simpa [World.setCell] using h.lt⟩
theorem TmSt.s1 {wr : World} {b o c0 c1 : Nat} {v : World} {y : Tm} (h : TmSt wr b o c0 c1 v y) (u : ByteArray) : TmSt wr b o c0 c1 (v.setCell ⟨b, o + 1, none⟩ (.string u)) { y with ov := u } := by
  obtain ⟨h0, h1⟩ := h.cells
  have ht : Touch b (b + 1) v (v.setCell ⟨b, o + 1, none⟩ (.string u)) := Touch.setCell _ _ _ _ _ ⟨Nat.le_refl _, by simp only []; omega⟩
  have hbc := h.bc
  exact ⟨h.near.trans (Near.set _ _ _ _ _ _ _ _ (by omega) (by omega)), h.bc, ⟨(cne (by omega)).trans h0, World.cell?_setCell_same' _ _ _ (by rw [h1]; rfl)⟩, fun i => by rw [World.frozen?_setCell]; exact h.frz i, by simpa [World.setCell] using h.lt⟩
end Go.Proofs.YtdeammfdkaomlaaGreat
namespace Go.Proofs.YtdeammfdkaomlaaGreat
open Go.RowKit Go.Deep

def ObOne (b o c0 c1 : Nat) (w : World) (x : Ob) : Prop := ObSize x ∧ ∃ (vv0 vv1 : Value) (m1 : Nat), c0 ≤ m1 ∧ m1 ≤ c1 ∧ ObCells w b o x vv0 vv1 ∧ StrsOwn c0 m1 w vv0 x.vs ∧ StrsOwn m1 c1 w vv1 x.hs
theorem ObOne.near {b o c0 c1 o1 d0 d1 : Nat} {w w' : World} {x : Ob} (h : ObOne b o c0 c1 w x) (hn : Near b o1 7 d0 d1 w w') (ho : o + 7 ≤ o1 ∨ o1 + 7 ≤ o) (hi : c1 ≤ d0 ∨ d1 ≤ c0) (hb : b < c0 ∨ c1 ≤ b) : ObOne b o c0 c1 w' x := by
  obtain ⟨hs, vv0, vv1, m1, q0, q1, hc, l0, l1⟩ := h
  obtain ⟨h0, h1, h2, h3, h4, h5, h6⟩ := hc
  have e : ∀ t, t < 7 → w'.cell? ⟨b, o + t, none⟩ = w.cell? ⟨b, o + t, none⟩ := fun t ht => hn.cell _ (by omega)
  have e0 : w'.cell? ⟨b, o, none⟩ = w.cell? ⟨b, o, none⟩ := hn.cell _ (by omega)
  exact ⟨hs, vv0, vv1, m1, q0, q1, ⟨e0.trans h0, (e 1 (by omega)).trans h1, (e 2 (by omega)).trans h2, (e 3 (by omega)).trans h3, (e 4 (by omega)).trans h4, (e 5 (by omega)).trans h5, (e 6 (by omega)).trans h6⟩, l0.near hn (by omega) (by omega), l1.near hn (by omega) (by omega)⟩
theorem ObOne.touch {b o c0 c1 : Nat} {lo hi : Nat} {w w' : World} {x : Ob} (h : ObOne b o c0 c1 w x) (ht : Touch lo hi w w') (hlt : b < w.heap.size) (hb : b < lo ∨ hi ≤ b) (hi' : c1 ≤ lo ∨ hi ≤ c0) : ObOne b o c0 c1 w' x := by
  obtain ⟨hs, vv0, vv1, m1, q0, q1, hc, l0, l1⟩ := h
  obtain ⟨h0, h1, h2, h3, h4, h5, h6⟩ := hc
  exact ⟨hs, vv0, vv1, m1, q0, q1, ⟨(ht.cell (p := ⟨b, o, none⟩) hlt hb).trans h0, (ht.cell (p := ⟨b, o + 1, none⟩) hlt hb).trans h1, (ht.cell (p := ⟨b, o + 2, none⟩) hlt hb).trans h2, (ht.cell (p := ⟨b, o + 3, none⟩) hlt hb).trans h3, (ht.cell (p := ⟨b, o + 4, none⟩) hlt hb).trans h4, (ht.cell (p := ⟨b, o + 5, none⟩) hlt hb).trans h5, (ht.cell (p := ⟨b, o + 6, none⟩) hlt hb).trans h6⟩, l0.touch ht (by omega), l1.touch ht (by omega)⟩
theorem ObOne.below {b o c0 c1 : Nat}  {w w' : World} {x : Ob} (h : ObOne b o c0 c1 w x) (ht : Below w.heap.size w w') (hlt : b < w.heap.size) : ObOne b o c0 c1 w' x := by
  obtain ⟨hs, vv0, vv1, m1, q0, q1, hc, l0, l1⟩ := h
  obtain ⟨h0, h1, h2, h3, h4, h5, h6⟩ := hc
  exact ⟨hs, vv0, vv1, m1, q0, q1, ⟨(ht.cell (p := ⟨b, o, none⟩) hlt).trans h0, (ht.cell (p := ⟨b, o + 1, none⟩) hlt).trans h1, (ht.cell (p := ⟨b, o + 2, none⟩) hlt).trans h2, (ht.cell (p := ⟨b, o + 3, none⟩) hlt).trans h3, (ht.cell (p := ⟨b, o + 4, none⟩) hlt).trans h4, (ht.cell (p := ⟨b, o + 5, none⟩) hlt).trans h5, (ht.cell (p := ⟨b, o + 6, none⟩) hlt).trans h6⟩, l0.below ht, l1.below ht⟩
structure ObRow (lo hi : Nat) (w : World) (b off n : Nat) (c : Nat → Nat × Nat) (X : Nat → Ob) : Prop where
  lt : b < w.heap.size
  low : lo ≤ b
  bh : b < hi
  seg : ∀ i, i < n → lo ≤ (c i).1 ∧ (c i).2 ≤ hi ∧ (b < (c i).1 ∨ (c i).2 ≤ b)
  mono : ∀ i j, i < j → j < n → (c i).2 ≤ (c j).1
  frz : ∀ i, w.frozen? ⟨b, i, none⟩ = false
  row : ∀ i, i < n → ObOne b (off + i * 7) (c i).1 (c i).2 w (X i)
theorem ObRow.near {lo hi : Nat} {w w' : World} {b off n : Nat} {c : Nat → Nat × Nat} {X : Nat → Ob} (h : ObRow lo hi w b off n c X) {j : Nat} (hj : j < n) (hn : Near b (off + j * 7) 7 (c j).1 (c j).2 w w') {x : Ob} (hx : ObOne b (off + j * 7) (c j).1 (c j).2 w' x) : ObRow lo hi w' b off n c (fun i => if i = j then x else X i) := by
  refine ⟨Nat.lt_of_lt_of_le h.lt hn.size, h.low, h.bh, h.seg, h.mono, fun i => (hn.frz i).trans (h.frz i), fun i hi' => ?_⟩
  by_cases e : i = j
  · subst e; rw [if_pos rfl]; exact hx
  · rw [if_neg e]
    refine (h.row i hi').near hn (by omega) ?_ (h.seg i hi').2.2
    rcases Nat.lt_or_ge i j with hij | hij
    · exact Or.inl (h.mono i j hij hj)
    · exact Or.inr (h.mono j i (by omega) hi')
theorem ObRow.touch {lo hi lo' hi' : Nat} {w w' : World} {b off n : Nat} {c : Nat → Nat × Nat} {X : Nat → Ob} (h : ObRow lo hi w b off n c X) (ht : Touch lo' hi' w w') (ho : hi ≤ lo' ∨ hi' ≤ lo) : ObRow lo hi w' b off n c X := by
  have h1 := h.low
  have h2 := h.bh
  refine ⟨Nat.lt_of_lt_of_le h.lt ht.size, h.low, h.bh, h.seg, h.mono, fun i => (ht.frozen (p := ⟨b, i, none⟩) h.lt (by simp only []; omega)).trans (h.frz i), fun i hi' => ?_⟩
  have h5 := h.seg i hi'
  exact (h.row i hi').touch ht h.lt (by omega) (by omega)
theorem ObRow.below {lo hi : Nat} {w w' : World} {b off n : Nat} {c : Nat → Nat × Nat} {X : Nat → Ob} (h : ObRow lo hi w b off n c X) (ht : Below w.heap.size w w') : ObRow lo hi w' b off n c X :=
  ⟨Nat.lt_of_lt_of_le h.lt ht.size, h.low, h.bh, h.seg, h.mono, fun i => (ht.frozen (p := ⟨b, i, none⟩) h.lt).trans (h.frz i), fun i hi' => (h.row i hi').below ht h.lt⟩
theorem ObRow.to {lo hi : Nat} {w : World} {b off n : Nat} {c : Nat → Nat × Nat} {X Y : Nat → Ob} (h : ObRow lo hi w b off n c X) (e : ∀ i, i < n → X i = Y i) : ObRow lo hi w b off n c Y :=
  ⟨h.lt, h.low, h.bh, h.seg, h.mono, h.frz, fun i hi' => e i hi' ▸ h.row i hi'⟩
/-- a list of one's own -/
def ObsOwn (lo hi : Nat) (w : World) (v : Value) (Xl : List Ob) : Prop :=
  (∃ (a : Option Addr) (cap : Nat), v = .slice a 0 cap ∧ Xl = []) ∨
  ∃ (b off cap : Nat) (c : Nat → Nat × Nat) (X : Nat → Ob), v = .slice (some ⟨b, off, none⟩) Xl.length cap ∧ Xl ≠ [] ∧ Xl.length ≤ maxLen ∧ Xl.length ≤ cap ∧ (∀ i (h : i < Xl.length), X i = Xl[i]) ∧ ObRow lo hi w b off Xl.length c X
theorem ObsOwn.touch {lo hi lo' hi' : Nat} {w w' : World} {v : Value} {Xl : List Ob} (h : ObsOwn lo hi w v Xl) (ht : Touch lo' hi' w w') (ho : hi ≤ lo' ∨ hi' ≤ lo) : ObsOwn lo hi w' v Xl := by
  rcases h with h | ⟨b, off, cap, c, X, h1, h2, h3, h4, h5, h6⟩
  · exact Or.inl h
  · exact Or.inr ⟨b, off, cap, c, X, h1, h2, h3, h4, h5, h6.touch ht ho⟩
theorem ObsOwn.below {lo hi : Nat} {w w' : World} {v : Value} {Xl : List Ob} (h : ObsOwn lo hi w v Xl) (ht : Below w.heap.size w w') : ObsOwn lo hi w' v Xl := by
  rcases h with h | ⟨b, off, cap, c, X, h1, h2, h3, h4, h5, h6⟩
  · exact Or.inl h
  · exact Or.inr ⟨b, off, cap, c, X, h1, h2, h3, h4, h5, h6.below ht⟩
theorem ObsOwn.form {lo hi : Nat} {w : World} {v : Value} {Xl : List Ob} (h : ObsOwn lo hi w v Xl) : ∃ a cap, v = .slice a Xl.length cap := by
  rcases h with ⟨a, cap, h, rfl⟩ | ⟨b, off, cap, c, X, h1, _⟩
  · exact ⟨a, cap, h⟩
  · exact ⟨_, cap, h1⟩
theorem ObsOwn.at {lo hi : Nat} {w : World} {v : Value} {Xl : List Ob} (h : ObsOwn lo hi w v Xl) : ObsAt lo w v Xl := by
  rcases h with h | ⟨b, off, cap, c, X, h1, h2, h3, h4, h5, h6⟩
  · exact Or.inl h
  · refine Or.inr ⟨b, off, cap, h1, h2, h3, h6.lt, h6.low, h4, fun i hi' => ?_⟩
    have hr := h6.row i hi'
    have g0 := h6.seg i hi'
    rw [h5 i hi'] at hr
    obtain ⟨hs, vv0, vv1, m1, q0, q1, hc, l0, l1⟩ := hr
    exact ⟨hs, vv0, vv1, hc, (l0.in').mono (by omega), (l1.in').mono (by omega)⟩
structure ObSt (wr : World) (b o c0 c1 m1 : Nat) (vv0 vv1 : Value) (v : World) (y : Ob) : Prop where
  near : Near b o 7 c0 c1 wr v
  bc : b < c0 ∨ c1 ≤ b
  q0 : c0 ≤ m1
  q1 : m1 ≤ c1
  cells : ObCells v b o y vv0 vv1
  l0 : StrsOwn c0 m1 v vv0 y.vs
  l1 : StrsOwn m1 c1 v vv1 y.hs
  frz : ∀ i, v.frozen? ⟨b, i, none⟩ = false
  lt : b < v.heap.size
theorem ObSt.below {wr : World} {b o c0 c1 m1 : Nat} {vv0 vv1 : Value} {v v' : World} {y : Ob} (h : ObSt wr b o c0 c1 m1 vv0 vv1 v y) (hb : Below v.heap.size v v') : ObSt wr b o c0 c1 m1 vv0 vv1 v' y :=
  ⟨h.near.trans (Near.below hb h.lt), h.bc, h.q0, h.q1, h.cells.below hb h.lt, h.l0.below hb, h.l1.below hb, fun i => (hb.frozen (p := ⟨b, i, none⟩) h.lt).trans (h.frz i), Nat.lt_of_lt_of_le h.lt hb.size⟩
theorem ObSt.s0 {wr : World} {b o c0 c1 m1 : Nat} {vv0 vv1 : Value} {v : World} {y : Ob} (h : ObSt wr b o c0 c1 m1 vv0 vv1 v y) (u : ByteArray) : ObSt wr b o c0 c1 m1 vv0 vv1 (v.setCell ⟨b, o, none⟩ (.string u)) { y with kd := u } := by
  obtain ⟨h0, h1, h2, h3, h4, h5, h6⟩ := h.cells
  have ht : Touch b (b + 1) v (v.setCell ⟨b, o, none⟩ (.string u)) := Touch.setCell _ _ _ _ _ ⟨Nat.le_refl _, by simp only []; omega⟩
  have hbc := h.bc
  have hq0 := h.q0
  have hq1 := h.q1
  exact ⟨h.near.trans (Near.set _ _ _ _ _ _ _ _ (by omega) (by omega)), h.bc, h.q0, h.q1, ⟨World.cell?_setCell_same' _ _ _ (by rw [h0]; rfl), (cne (by omega)).trans h1, (cne (by omega)).trans h2, (cne (by omega)).trans h3, (cne (by omega)).trans h4, (cne (by omega)).trans h5, (cne (by omega)).trans h6⟩, h.l0.touch ht (by omega), h.l1.touch ht (by omega), fun i => by rw [World.frozen?_setCell]; exact h.frz i, by simpa [World.setCell] using h.lt⟩
theorem ObSt.s1 {wr : World} {b o c0 c1 m1 : Nat} {vv0 vv1 : Value} {v : World} {y : Ob} (h : ObSt wr b o c0 c1 m1 vv0 vv1 v y) (u : ByteArray) : ObSt wr b o c0 c1 m1 vv0 vv1 (v.setCell ⟨b, o + 1, none⟩ (.string u)) { y with nm := u } := by
  obtain ⟨h0, h1, h2, h3, h4, h5, h6⟩ := h.cells
  have ht : Touch b (b + 1) v (v.setCell ⟨b, o + 1, none⟩ (.string u)) := Touch.setCell _ _ _ _ _ ⟨Nat.le_refl _, by simp only []; omega⟩
  have hbc := h.bc
  have hq0 := h.q0
  have hq1 := h.q1
  exact ⟨h.near.trans (Near.set _ _ _ _ _ _ _ _ (by omega) (by omega)), h.bc, h.q0, h.q1, ⟨(cne (by omega)).trans h0, World.cell?_setCell_same' _ _ _ (by rw [h1]; rfl), (cne (by omega)).trans h2, (cne (by omega)).trans h3, (cne (by omega)).trans h4, (cne (by omega)).trans h5, (cne (by omega)).trans h6⟩, h.l0.touch ht (by omega), h.l1.touch ht (by omega), fun i => by rw [World.frozen?_setCell]; exact h.frz i, by simpa [World.setCell] using h.lt⟩
theorem ObSt.s2 {wr : World} {b o c0 c1 m1 : Nat} {vv0 vv1 : Value} {v : World} {y : Ob} (h : ObSt wr b o c0 c1 m1 vv0 vv1 v y) (u : ByteArray) : ObSt wr b o c0 c1 m1 vv0 vv1 (v.setCell ⟨b, o + 2, none⟩ (.string u)) { y with tm := u } := by
  obtain ⟨h0, h1, h2, h3, h4, h5, h6⟩ := h.cells
  have ht : Touch b (b + 1) v (v.setCell ⟨b, o + 2, none⟩ (.string u)) := Touch.setCell _ _ _ _ _ ⟨Nat.le_refl _, by simp only []; omega⟩
  have hbc := h.bc
  have hq0 := h.q0
  have hq1 := h.q1
  exact ⟨h.near.trans (Near.set _ _ _ _ _ _ _ _ (by omega) (by omega)), h.bc, h.q0, h.q1, ⟨(cne (by omega)).trans h0, (cne (by omega)).trans h1, World.cell?_setCell_same' _ _ _ (by rw [h2]; rfl), (cne (by omega)).trans h3, (cne (by omega)).trans h4, (cne (by omega)).trans h5, (cne (by omega)).trans h6⟩, h.l0.touch ht (by omega), h.l1.touch ht (by omega), fun i => by rw [World.frozen?_setCell]; exact h.frz i, by simpa [World.setCell] using h.lt⟩
theorem ObSt.s4 {wr : World} {b o c0 c1 m1 : Nat} {vv0 vv1 : Value} {v : World} {y : Ob} (h : ObSt wr b o c0 c1 m1 vv0 vv1 v y) (u : Bool) : ObSt wr b o c0 c1 m1 vv0 vv1 (v.setCell ⟨b, o + 4, none⟩ (.bool u)) { y with en := u } := by
  obtain ⟨h0, h1, h2, h3, h4, h5, h6⟩ := h.cells
  have ht : Touch b (b + 1) v (v.setCell ⟨b, o + 4, none⟩ (.bool u)) := Touch.setCell _ _ _ _ _ ⟨Nat.le_refl _, by simp only []; omega⟩
  have hbc := h.bc
  have hq0 := h.q0
  have hq1 := h.q1
  exact ⟨h.near.trans (Near.set _ _ _ _ _ _ _ _ (by omega) (by omega)), h.bc, h.q0, h.q1, ⟨(cne (by omega)).trans h0, (cne (by omega)).trans h1, (cne (by omega)).trans h2, (cne (by omega)).trans h3, World.cell?_setCell_same' _ _ _ (by rw [h4]; rfl), (cne (by omega)).trans h5, (cne (by omega)).trans h6⟩, h.l0.touch ht (by omega), h.l1.touch ht (by omega), fun i => by rw [World.frozen?_setCell]; exact h.frz i, by simpa [World.setCell] using h.lt⟩
theorem ObSt.s6 {wr : World} {b o c0 c1 m1 : Nat} {vv0 vv1 : Value} {v : World} {y : Ob} (h : ObSt wr b o c0 c1 m1 vv0 vv1 v y) (u : Int) : ObSt wr b o c0 c1 m1 vv0 vv1 (v.setCell ⟨b, o + 6, none⟩ (.int .i64 u)) { y with ver := u } := by
  obtain ⟨h0, h1, h2, h3, h4, h5, h6⟩ := h.cells
  have ht : Touch b (b + 1) v (v.setCell ⟨b, o + 6, none⟩ (.int .i64 u)) := Touch.setCell _ _ _ _ _ ⟨Nat.le_refl _, by simp only []; omega⟩
  have hbc := h.bc
  have hq0 := h.q0
  have hq1 := h.q1
  exact ⟨h.near.trans (Near.set _ _ _ _ _ _ _ _ (by omega) (by omega)), h.bc, h.q0, h.q1, ⟨(cne (by omega)).trans h0, (cne (by omega)).trans h1, (cne (by omega)).trans h2, (cne (by omega)).trans h3, (cne (by omega)).trans h4, (cne (by omega)).trans h5, World.cell?_setCell_same' _ _ _ (by rw [h6]; rfl)⟩, h.l0.touch ht (by omega), h.l1.touch ht (by omega), fun i => by rw [World.frozen?_setCell]; exact h.frz i, by simpa [World.setCell] using h.lt⟩
theorem ObSt.m0' {wr : World} {b o c0 c1 m1 : Nat} {vv0 vv1 : Value} {v v' : World} {y : Ob} (h : ObSt wr b o c0 c1 m1 vv0 vv1 v y) (ht : Touch c0 m1 v v') {L : List ByteArray} (hl : StrsOwn c0 m1 v' vv0 L) : ObSt wr b o c0 c1 m1 vv0 vv1 v' { y with vs := L } := by
  obtain ⟨h0, h1, h2, h3, h4, h5, h6⟩ := h.cells
  have hbc := h.bc
  have hq0 := h.q0
  have hq1 := h.q1
  have hlt := h.lt
  have e : ∀ i, v'.cell? ⟨b, i, none⟩ = v.cell? ⟨b, i, none⟩ := fun i => ht.cell (p := ⟨b, i, none⟩) h.lt (by simp only []; omega)
  exact ⟨h.near.trans (Near.touch ht h.lt (by omega) (by omega) (by omega)), h.bc, h.q0, h.q1, ⟨(e _).trans h0, (e _).trans h1, (e _).trans h2, (e _).trans h3, (e _).trans h4, (e _).trans h5, (e _).trans h6⟩, hl, h.l1.touch ht (by omega), fun i => (ht.frozen (p := ⟨b, i, none⟩) h.lt (by simp only []; omega)).trans (h.frz i), Nat.lt_of_lt_of_le h.lt ht.size⟩
end Go.Proofs.YtdeammfdkaomlaaGreat
namespace Go.Proofs.YtdeammfdkaomlaaGreat
open Go.RowKit Go.Deep

def LeOne (b o _c0 _c1 : Nat) (w : World) (x : Le) : Prop := LeSize x ∧ LeCells w b o x
theorem LeOne.near {b o c0 c1 o1 d0 d1 : Nat} {w w' : World} {x : Le} (h : LeOne b o c0 c1 w x) (hn : Near b o1 4 d0 d1 w w') (ho : o + 4 ≤ o1 ∨ o1 + 4 ≤ o) (hi : c1 ≤ d0 ∨ d1 ≤ c0) (hb : b < c0 ∨ c1 ≤ b) : LeOne b o c0 c1 w' x := by
  obtain ⟨hs, hc⟩ := h
  obtain ⟨h0, h1, h2, h3⟩ := hc
  have e : ∀ t, t < 4 → w'.cell? ⟨b, o + t, none⟩ = w.cell? ⟨b, o + t, none⟩ := fun t ht => hn.cell _ (by omega)
  have e0 : w'.cell? ⟨b, o, none⟩ = w.cell? ⟨b, o, none⟩ := hn.cell _ (by omega)
  exact ⟨hs, ⟨e0.trans h0, (e 1 (by omega)).trans h1, (e 2 (by omega)).trans h2, (e 3 (by omega)).trans h3⟩⟩
theorem LeOne.touch {b o c0 c1 : Nat} {lo hi : Nat} {w w' : World} {x : Le} (h : LeOne b o c0 c1 w x) (ht : Touch lo hi w w') (hlt : b < w.heap.size) (hb : b < lo ∨ hi ≤ b) (_hi : c1 ≤ lo ∨ hi ≤ c0) : LeOne b o c0 c1 w' x := by
  obtain ⟨hs, hc⟩ := h
  obtain ⟨h0, h1, h2, h3⟩ := hc
  exact ⟨hs, ⟨(ht.cell (p := ⟨b, o, none⟩) hlt hb).trans h0, (ht.cell (p := ⟨b, o + 1, none⟩) hlt hb).trans h1, (ht.cell (p := ⟨b, o + 2, none⟩) hlt hb).trans h2, (ht.cell (p := ⟨b, o + 3, none⟩) hlt hb).trans h3⟩⟩
theorem LeOne.below {b o c0 c1 : Nat}  {w w' : World} {x : Le} (h : LeOne b o c0 c1 w x) (ht : Below w.heap.size w w') (hlt : b < w.heap.size) : LeOne b o c0 c1 w' x := by
  obtain ⟨hs, hc⟩ := h
  obtain ⟨h0, h1, h2, h3⟩ := hc
  exact ⟨hs, ⟨(ht.cell (p := ⟨b, o, none⟩) hlt).trans h0, (ht.cell (p := ⟨b, o + 1, none⟩) hlt).trans h1, (ht.cell (p := ⟨b, o + 2, none⟩) hlt).trans h2, (ht.cell (p := ⟨b, o + 3, none⟩) hlt).trans h3⟩⟩
structure LeRow (lo hi : Nat) (w : World) (b off n : Nat) (c : Nat → Nat) (X : Nat → Le) : Prop where
  lt : b < w.heap.size
  low : lo ≤ b
  bc : b < c 0
  bh : b < hi
  mono : ∀ i, i < n → c i ≤ c (i + 1)
  top : c n ≤ hi
  frz : ∀ i, w.frozen? ⟨b, i, none⟩ = false
  row : ∀ i, i < n → LeOne b (off + i * 4) (c i) (c (i + 1)) w (X i)
theorem LeRow.le {lo hi : Nat} {w : World} {b off n : Nat} {c : Nat → Nat} {X : Nat → Le} (h : LeRow lo hi w b off n c X) {i : Nat} : ∀ {j : Nat}, i ≤ j → j ≤ n → c i ≤ c j := by
  intro j
  induction j with
  | zero => intro hij _; have : i = 0 := by omega
            subst this; exact Nat.le_refl _
  | succ j ih =>
    intro hij hjn
    by_cases e : i = j + 1
    · subst e; exact Nat.le_refl _
    · exact Nat.le_trans (ih (by omega) (by omega)) (h.mono j (by omega))
theorem LeRow.near {lo hi : Nat} {w w' : World} {b off n : Nat} {c : Nat → Nat} {X : Nat → Le} (h : LeRow lo hi w b off n c X) {j : Nat} (hj : j < n) (hn : Near b (off + j * 4) 4 (c j) (c (j + 1)) w w') {x : Le} (hx : LeOne b (off + j * 4) (c j) (c (j + 1)) w' x) : LeRow lo hi w' b off n c (fun i => if i = j then x else X i) := by
  refine ⟨Nat.lt_of_lt_of_le h.lt hn.size, h.low, h.bc, h.bh, h.mono, h.top, fun i => (hn.frz i).trans (h.frz i), fun i hi' => ?_⟩
  by_cases e : i = j
  · subst e; rw [if_pos rfl]; exact hx
  · rw [if_neg e]
    have h0 := h.le (Nat.zero_le i) (by omega)
    have hbc := h.bc
    refine (h.row i hi').near hn (by omega) ?_ (by omega)
    rcases Nat.lt_or_ge i j with hij | hij
    · exact Or.inl (h.le (by omega) (by omega))
    · exact Or.inr (h.le (by omega) (by omega))
theorem LeRow.touch {lo hi lo' hi' : Nat} {w w' : World} {b off n : Nat} {c : Nat → Nat} {X : Nat → Le} (h : LeRow lo hi w b off n c X) (ht : Touch lo' hi' w w') (ho : hi ≤ lo' ∨ hi' ≤ lo) : LeRow lo hi w' b off n c X := by
  have h1 := h.low
  have h2 := h.bh
  have h3 := h.top
  have h4 := h.bc
  refine ⟨Nat.lt_of_lt_of_le h.lt ht.size, h.low, h.bc, h.bh, h.mono, h.top, fun i => (ht.frozen (p := ⟨b, i, none⟩) h.lt (by simp only []; omega)).trans (h.frz i), fun i hi' => ?_⟩
  have h5 := h.le (Nat.zero_le i) (by omega)
  have h6 := h.le (i := i + 1) (j := n) (by omega) (Nat.le_refl _)
  exact (h.row i hi').touch ht h.lt (by omega) (by omega)
theorem LeRow.below {lo hi : Nat} {w w' : World} {b off n : Nat} {c : Nat → Nat} {X : Nat → Le} (h : LeRow lo hi w b off n c X) (ht : Below w.heap.size w w') : LeRow lo hi w' b off n c X :=
  ⟨Nat.lt_of_lt_of_le h.lt ht.size, h.low, h.bc, h.bh, h.mono, h.top, fun i => (ht.frozen (p := ⟨b, i, none⟩) h.lt).trans (h.frz i), fun i hi' => (h.row i hi').below ht h.lt⟩
theorem LeRow.to {lo hi : Nat} {w : World} {b off n : Nat} {c : Nat → Nat} {X Y : Nat → Le} (h : LeRow lo hi w b off n c X) (e : ∀ i, i < n → X i = Y i) : LeRow lo hi w b off n c Y :=
  ⟨h.lt, h.low, h.bc, h.bh, h.mono, h.top, h.frz, fun i hi' => e i hi' ▸ h.row i hi'⟩
/-- a list of one's own -/
def LesOwn (lo hi : Nat) (w : World) (v : Value) (Xl : List Le) : Prop :=
  (∃ (a : Option Addr) (cap : Nat), v = .slice a 0 cap ∧ Xl = []) ∨
  ∃ (b off cap : Nat) (c : Nat → Nat) (X : Nat → Le), v = .slice (some ⟨b, off, none⟩) Xl.length cap ∧ Xl ≠ [] ∧ Xl.length ≤ maxLen ∧ Xl.length ≤ cap ∧ (∀ i (h : i < Xl.length), X i = Xl[i]) ∧ LeRow lo hi w b off Xl.length c X
theorem LesOwn.touch {lo hi lo' hi' : Nat} {w w' : World} {v : Value} {Xl : List Le} (h : LesOwn lo hi w v Xl) (ht : Touch lo' hi' w w') (ho : hi ≤ lo' ∨ hi' ≤ lo) : LesOwn lo hi w' v Xl := by
  rcases h with h | ⟨b, off, cap, c, X, h1, h2, h3, h4, h5, h6⟩
  · exact Or.inl h
  · exact Or.inr ⟨b, off, cap, c, X, h1, h2, h3, h4, h5, h6.touch ht ho⟩
theorem LesOwn.below {lo hi : Nat} {w w' : World} {v : Value} {Xl : List Le} (h : LesOwn lo hi w v Xl) (ht : Below w.heap.size w w') : LesOwn lo hi w' v Xl := by
  rcases h with h | ⟨b, off, cap, c, X, h1, h2, h3, h4, h5, h6⟩
  · exact Or.inl h
  · exact Or.inr ⟨b, off, cap, c, X, h1, h2, h3, h4, h5, h6.below ht⟩
theorem LesOwn.form {lo hi : Nat} {w : World} {v : Value} {Xl : List Le} (h : LesOwn lo hi w v Xl) : ∃ a cap, v = .slice a Xl.length cap := by
  rcases h with ⟨a, cap, h, rfl⟩ | ⟨b, off, cap, c, X, h1, _⟩
  · exact ⟨a, cap, h⟩
  · exact ⟨_, cap, h1⟩
theorem LesOwn.at {lo hi : Nat} {w : World} {v : Value} {Xl : List Le} (h : LesOwn lo hi w v Xl) : LesAt lo w v Xl := by
  rcases h with h | ⟨b, off, cap, c, X, h1, h2, h3, h4, h5, h6⟩
  · exact Or.inl h
  · refine Or.inr ⟨b, off, cap, h1, h2, h3, h6.lt, h6.low, h4, fun i hi' => ?_⟩
    have hr := h6.row i hi'
    rw [h5 i hi'] at hr
    obtain ⟨hs, hc⟩ := hr
    exact ⟨hs, hc⟩
structure LeSt (wr : World) (b o c0 c1 : Nat) (v : World) (y : Le) : Prop where
  near : Near b o 4 c0 c1 wr v
  bc : b < c0
  cells : LeCells v b o y
  frz : ∀ i, v.frozen? ⟨b, i, none⟩ = false
  lt : b < v.heap.size
theorem LeSt.below {wr : World} {b o c0 c1 : Nat} {v v' : World} {y : Le} (h : LeSt wr b o c0 c1 v y) (hb : Below v.heap.size v v') : LeSt wr b o c0 c1 v' y :=
  ⟨h.near.trans (Near.below hb h.lt), h.bc, h.cells.below hb h.lt, fun i => (hb.frozen (p := ⟨b, i, none⟩) h.lt).trans (h.frz i), Nat.lt_of_lt_of_le h.lt hb.size⟩
theorem LeSt.s0 {wr : World} {b o c0 c1 : Nat} {v : World} {y : Le} (h : LeSt wr b o c0 c1 v y) (u : ByteArray) : LeSt wr b o c0 c1 (v.setCell ⟨b, o, none⟩ (.string u)) { y with tm := u } := by
  obtain ⟨h0, h1, h2, h3⟩ := h.cells
  have ht : Touch b (b + 1) v (v.setCell ⟨b, o, none⟩ (.string u)) := Touch.setCell _ _ _ _ _ ⟨Nat.le_refl _, by simp only []; omega⟩
  have hbc := h.bc
  exact ⟨h.near.trans (Near.set _ _ _ _ _ _ _ _ (by omega) (by omega)), h.bc, ⟨World.cell?_setCell_same' _ _ _ (by rw [h0]; rfl), (cne (by omega)).trans h1, (cne (by omega)).trans h2, (cne (by omega)).trans h3⟩, fun i => by rw [World.frozen?_setCell]; exact h.frz i, by simpa [World.setCell] using h.lt⟩
theorem LeSt.s1 {wr : World} {b o c0 c1 : Nat} {v : World} {y : Le} (h : LeSt wr b o c0 c1 v y) (u : ByteArray) : LeSt wr b o c0 c1 (v.setCell ⟨b, o + 1, none⟩ (.string u)) { y with re := u } := by
  obtain ⟨h0, h1, h2, h3⟩ := h.cells
  have ht : Touch b (b + 1) v (v.setCell ⟨b, o + 1, none⟩ (.string u)) := Touch.setCell _ _ _ _ _ ⟨Nat.le_refl _, by simp only []; omega⟩
  have hbc := h.bc
  exact ⟨h.near.trans (Near.set _ _ _ _ _ _ _ _ (by omega) (by omega)), h.bc, ⟨(cne (by omega)).trans h0, World.cell?_setCell_same' _ _ _ (by rw [h1]; rfl), (cne (by omega)).trans h2, (cne (by omega)).trans h3⟩, fun i => by rw [World.frozen?_setCell]; exact h.frz i, by simpa [World.setCell] using h.lt⟩
theorem LeSt.s2 {wr : World} {b o c0 c1 : Nat} {v : World} {y : Le} (h : LeSt wr b o c0 c1 v y) (u : Int) : LeSt wr b o c0 c1 (v.setCell ⟨b, o + 2, none⟩ (.int .i64 u)) { y with mo := u } := by
  obtain ⟨h0, h1, h2, h3⟩ := h.cells
  have ht : Touch b (b + 1) v (v.setCell ⟨b, o + 2, none⟩ (.int .i64 u)) := Touch.setCell _ _ _ _ _ ⟨Nat.le_refl _, by simp only []; omega⟩
  have hbc := h.bc
  exact ⟨h.near.trans (Near.set _ _ _ _ _ _ _ _ (by omega) (by omega)), h.bc, ⟨(cne (by omega)).trans h0, (cne (by omega)).trans h1, World.cell?_setCell_same' _ _ _ (by rw [h2]; rfl), (cne (by omega)).trans h3⟩, fun i => by rw [World.frozen?_setCell]; exact h.frz i, by simpa [World.setCell] using h.lt⟩
theorem LeSt.s3 {wr : World} {b o c0 c1 : Nat} {v : World} {y : Le} (h : LeSt wr b o c0 c1 v y) (u : Int) : LeSt wr b o c0 c1 (v.setCell ⟨b, o + 3, none⟩ (.int .i64 u)) { y with fr := u } := by
  obtain ⟨h0, h1, h2, h3⟩ := h.cells
  have ht : Touch b (b + 1) v (v.setCell ⟨b, o + 3, none⟩ (.int .i64 u)) := Touch.setCell _ _ _ _ _ ⟨Nat.le_refl _, by simp only []; omega⟩
  have hbc := h.bc
  exact ⟨h.near.trans (Near.set _ _ _ _ _ _ _ _ (by omega) (by omega)), h.bc, ⟨(cne (by omega)).trans h0, (cne (by omega)).trans h1, (cne (by omega)).trans h2, World.cell?_setCell_same' _ _ _ (by rw [h3]; rfl)⟩, fun i => by rw [World.frozen?_setCell]; exact h.frz i, by simpa [World.setCell] using h.lt⟩
end Go.Proofs.YtdeammfdkaomlaaGreat
