import Derived.Test.YtemggnmooiaokaaGreatD06
namespace Go.Proofs.YtemggnmooiaokaaGreat
open Go.RowKit Go.Deep

end Go.Proofs.YtemggnmooiaokaaGreat
namespace Go.Proofs.YtemggnmooiaokaaGreat
open Go.RowKit Go.Deep

def CpOne (b o _c0 _c1 : Nat) (w : World) (x : Cp) : Prop := CpSize x ∧ CpCells w b o x
theorem CpOne.near {b o c0 c1 o1 d0 d1 : Nat} {w w' : World} {x : Cp} (h : CpOne b o c0 c1 w x) (hn : Near b o1 7 d0 d1 w w') (ho : o + 7 ≤ o1 ∨ o1 + 7 ≤ o) (hi : c1 ≤ d0 ∨ d1 ≤ c0) (hb : b < c0 ∨ c1 ≤ b) : CpOne b o c0 c1 w' x := by
  obtain ⟨hs, hc⟩ := h
  obtain ⟨h0, h1, h2, h3, h4, h5, h6⟩ := hc
  have e : ∀ t, t < 7 → w'.cell? ⟨b, o + t, none⟩ = w.cell? ⟨b, o + t, none⟩ := fun t ht => hn.cell _ (by omega)
  have e0 : w'.cell? ⟨b, o, none⟩ = w.cell? ⟨b, o, none⟩ := hn.cell _ (by omega)
  exact ⟨hs, ⟨e0.trans h0, (e 1 (by omega)).trans h1, (e 2 (by omega)).trans h2, (e 3 (by omega)).trans h3, (e 4 (by omega)).trans h4, (e 5 (by omega)).trans h5, (e 6 (by omega)).trans h6⟩⟩
theorem CpOne.touch {b o c0 c1 : Nat} {lo hi : Nat} {w w' : World} {x : Cp} (h : CpOne b o c0 c1 w x) (ht : Touch lo hi w w') (hlt : b < w.heap.size) (hb : b < lo ∨ hi ≤ b) (_hi : c1 ≤ lo ∨ hi ≤ c0) : CpOne b o c0 c1 w' x := by
  obtain ⟨hs, hc⟩ := h
  obtain ⟨h0, h1, h2, h3, h4, h5, h6⟩ := hc
  exact ⟨hs, ⟨(ht.cell (p := ⟨b, o, none⟩) hlt hb).trans h0, (ht.cell (p := ⟨b, o + 1, none⟩) hlt hb).trans h1, (ht.cell (p := ⟨b, o + 2, none⟩) hlt hb).trans h2, (ht.cell (p := ⟨b, o + 3, none⟩) hlt hb).trans h3, (ht.cell (p := ⟨b, o + 4, none⟩) hlt hb).trans h4, (ht.cell (p := ⟨b, o + 5, none⟩) hlt hb).trans h5, (ht.cell (p := ⟨b, o + 6, none⟩) hlt hb).trans h6⟩⟩
theorem CpOne.below {b o c0 c1 : Nat}  {w w' : World} {x : Cp} (h : CpOne b o c0 c1 w x) (ht : Below w.heap.size w w') (hlt : b < w.heap.size) : CpOne b o c0 c1 w' x := by
  obtain ⟨hs, hc⟩ := h
  obtain ⟨h0, h1, h2, h3, h4, h5, h6⟩ := hc
  exact ⟨hs, ⟨(ht.cell (p := ⟨b, o, none⟩) hlt).trans h0, (ht.cell (p := ⟨b, o + 1, none⟩) hlt).trans h1, (ht.cell (p := ⟨b, o + 2, none⟩) hlt).trans h2, (ht.cell (p := ⟨b, o + 3, none⟩) hlt).trans h3, (ht.cell (p := ⟨b, o + 4, none⟩) hlt).trans h4, (ht.cell (p := ⟨b, o + 5, none⟩) hlt).trans h5, (ht.cell (p := ⟨b, o + 6, none⟩) hlt).trans h6⟩⟩
structure CpRow (lo hi : Nat) (w : World) (b off n : Nat) (c : Nat → Nat) (X : Nat → Cp) : Prop where
  lt : b < w.heap.size
  low : lo ≤ b
  bc : b < c 0
  bh : b < hi
  mono : ∀ i, i < n → c i ≤ c (i + 1)
  top : c n ≤ hi
  frz : ∀ i, w.frozen? ⟨b, i, none⟩ = false
  row : ∀ i, i < n → CpOne b (off + i * 7) (c i) (c (i + 1)) w (X i)
theorem CpRow.le {lo hi : Nat} {w : World} {b off n : Nat} {c : Nat → Nat} {X : Nat → Cp} (h : CpRow lo hi w b off n c X) {i : Nat} : ∀ {j : Nat}, i ≤ j → j ≤ n → c i ≤ c j := by
  intro j
  induction j with
  | zero => intro hij _; have : i = 0 := by omega
            subst this; exact Nat.le_refl _
  | succ j ih =>
    intro hij hjn
    by_cases e : i = j + 1
    · subst e; exact Nat.le_refl _
    · exact Nat.le_trans (ih (by omega) (by omega)) (h.mono j (by omega))
theorem CpRow.near {lo hi : Nat} {w w' : World} {b off n : Nat} {c : Nat → Nat} {X : Nat → Cp} (h : CpRow lo hi w b off n c X) {j : Nat} (hj : j < n) (hn : Near b (off + j * 7) 7 (c j) (c (j + 1)) w w') {x : Cp} (hx : CpOne b (off + j * 7) (c j) (c (j + 1)) w' x) : CpRow lo hi w' b off n c (fun i => if i = j then x else X i) := by
  refine ⟨Nat.lt_of_lt_of_le h.lt hn.size, h.low, h.bc, h.bh, h.mono, h.top, fun i => (hn.frz i).trans (h.frz i), fun i hi' => ?_⟩
  by_cases e : i = j
  · subst e; rw [if_pos rfl]; exact hx
  · rw [if_neg e]
    have h0 := h.le (Nat.zero_le i) (by omega)
    have hbc := h.bc
    refine (h.row i hi').near hn (by omega) ?_ (by omega)
    rcases Nat.lt_or_ge i j with hij | hij
    · exact Or.inl (h.le (by omega) (by omega))
    · exact Or.inr (h.le (by omega) (by omega))
theorem CpRow.touch {lo hi lo' hi' : Nat} {w w' : World} {b off n : Nat} {c : Nat → Nat} {X : Nat → Cp} (h : CpRow lo hi w b off n c X) (ht : Touch lo' hi' w w') (ho : hi ≤ lo' ∨ hi' ≤ lo) : CpRow lo hi w' b off n c X := by
  have h1 := h.low
  have h2 := h.bh
  have h3 := h.top
  have h4 := h.bc
  refine ⟨Nat.lt_of_lt_of_le h.lt ht.size, h.low, h.bc, h.bh, h.mono, h.top, fun i => (ht.frozen (p := ⟨b, i, none⟩) h.lt (by simp only []; omega)).trans (h.frz i), fun i hi' => ?_⟩
  have h5 := h.le (Nat.zero_le i) (by omega)
  have h6 := h.le (i := i + 1) (j := n) (by omega) (Nat.le_refl _)
  exact (h.row i hi').touch ht h.lt (by omega) (by omega)
theorem CpRow.below {lo hi : Nat} {w w' : World} {b off n : Nat} {c : Nat → Nat} {X : Nat → Cp} (h : CpRow lo hi w b off n c X) (ht : Below w.heap.size w w') : CpRow lo hi w' b off n c X :=
  ⟨Nat.lt_of_lt_of_le h.lt ht.size, h.low, h.bc, h.bh, h.mono, h.top, fun i => (ht.frozen (p := ⟨b, i, none⟩) h.lt).trans (h.frz i), fun i hi' => (h.row i hi').below ht h.lt⟩
theorem CpRow.to {lo hi : Nat} {w : World} {b off n : Nat} {c : Nat → Nat} {X Y : Nat → Cp} (h : CpRow lo hi w b off n c X) (e : ∀ i, i < n → X i = Y i) : CpRow lo hi w b off n c Y :=
  ⟨h.lt, h.low, h.bc, h.bh, h.mono, h.top, h.frz, fun i hi' => e i hi' ▸ h.row i hi'⟩
/-- a list of one's own -/
def CpsOwn (lo hi : Nat) (w : World) (v : Value) (Xl : List Cp) : Prop :=
  (∃ (a : Option Addr) (cap : Nat), v = .slice a 0 cap ∧ Xl = []) ∨
  ∃ (b off cap : Nat) (c : Nat → Nat) (X : Nat → Cp), v = .slice (some ⟨b, off, none⟩) Xl.length cap ∧ Xl ≠ [] ∧ Xl.length ≤ maxLen ∧ Xl.length ≤ cap ∧ (∀ i (h : i < Xl.length), X i = Xl[i]) ∧ CpRow lo hi w b off Xl.length c X
theorem CpsOwn.touch {lo hi lo' hi' : Nat} {w w' : World} {v : Value} {Xl : List Cp} (h : CpsOwn lo hi w v Xl) (ht : Touch lo' hi' w w') (ho : hi ≤ lo' ∨ hi' ≤ lo) : CpsOwn lo hi w' v Xl := by
  rcases h with h | ⟨b, off, cap, c, X, h1, h2, h3, h4, h5, h6⟩
  · exact Or.inl h
  · exact Or.inr ⟨b, off, cap, c, X, h1, h2, h3, h4, h5, h6.touch ht ho⟩
theorem CpsOwn.below {lo hi : Nat} {w w' : World} {v : Value} {Xl : List Cp} (h : CpsOwn lo hi w v Xl) (ht : Below w.heap.size w w') : CpsOwn lo hi w' v Xl := by
  rcases h with h | ⟨b, off, cap, c, X, h1, h2, h3, h4, h5, h6⟩
  · exact Or.inl h
  · exact Or.inr ⟨b, off, cap, c, X, h1, h2, h3, h4, h5, h6.below ht⟩
theorem CpsOwn.form {lo hi : Nat} {w : World} {v : Value} {Xl : List Cp} (h : CpsOwn lo hi w v Xl) : ∃ a cap, v = .slice a Xl.length cap := by
  rcases h with ⟨a, cap, h, rfl⟩ | ⟨b, off, cap, c, X, h1, _⟩
  · exact ⟨a, cap, h⟩
  · exact ⟨_, cap, h1⟩
theorem CpsOwn.at {lo hi : Nat} {w : World} {v : Value} {Xl : List Cp} (h : CpsOwn lo hi w v Xl) : CpsAt lo w v Xl := by
  rcases h with h | ⟨b, off, cap, c, X, h1, h2, h3, h4, h5, h6⟩
  · exact Or.inl h
  · refine Or.inr ⟨b, off, cap, h1, h2, h3, h6.lt, h6.low, h4, fun i hi' => ?_⟩
    have hr := h6.row i hi'
    rw [h5 i hi'] at hr
    obtain ⟨hs, hc⟩ := hr
    exact ⟨hs, hc⟩
/-- marks from k on -/
def mkCp (k : Int) (_x : Cp) : Cp := ⟨mtB (k), k + 1, k + 1 + 1, k + 1 + 1 + 1, k + 1 + 1 + 1 + 1, ((k + 1 + 1 + 1 + 1 + 1) % 3 == 0), mtB (k + 1 + 1 + 1 + 1 + 1 + 1)⟩
def wdCp (_x : Cp) : Nat := 7
def posCp (Xl : List Cp) (i : Nat) : Nat := ((Xl.take i).map wdCp).sum
def mkCps (k : Int) (Xl : List Cp) : List Cp := Xl.mapIdx (fun i x => mkCp (k + (posCp Xl i : Int)) x)
theorem mkCps_len (k : Int) (Xl : List Cp) : (mkCps k Xl).length = Xl.length := by unfold mkCps; simp
theorem mkCps_get (k : Int) (Xl : List Cp) (i : Nat) (h : i < (mkCps k Xl).length) (h' : i < Xl.length) : (mkCps k Xl)[i] = mkCp (k + (posCp Xl i : Int)) Xl[i] := List.getElem_mapIdx (f := fun i x => mkCp (k + (posCp Xl i : Int)) x) (h := h)
theorem posCp_succ {Xl : List Cp} {i : Nat} (h : i < Xl.length) : posCp Xl (i + 1) = posCp Xl i + wdCp Xl[i] := by
  unfold posCp
  rw [List.take_succ_eq_append_getElem h, List.map_append, List.sum_append]
  simp
theorem posCp_le {Xl : List Cp} (_hn : CpsSmall Xl) : ∀ {i : Nat}, i ≤ Xl.length → posCp Xl i ≤ i * 3000000 := by
  intro i
  induction i with
  | zero => intro _; simp [posCp]
  | succ i ih =>
    intro hi'
    have h1 := ih (by omega)
    rw [posCp_succ (by omega)]
    have h2 : wdCp Xl[i] ≤ 3000000 := by
      unfold wdCp
      omega
    omega
theorem posCp_all {Xl : List Cp} {i : Nat} (h : Xl.length ≤ i) : posCp Xl i = posCp Xl Xl.length := by
  unfold posCp
  rw [List.take_of_length_le h, List.take_of_length_le (Nat.le_refl _)]
structure CpSt (wr : World) (b o c0 c1 : Nat) (v : World) (y : Cp) : Prop where
  near : Near b o 7 c0 c1 wr v
  bc : b < c0
  cells : CpCells v b o y
  frz : ∀ i, v.frozen? ⟨b, i, none⟩ = false
  lt : b < v.heap.size
theorem CpSt.below {wr : World} {b o c0 c1 : Nat} {v v' : World} {y : Cp} (h : CpSt wr b o c0 c1 v y) (hb : Below v.heap.size v v') : CpSt wr b o c0 c1 v' y :=
  ⟨h.near.trans (Near.below hb h.lt), h.bc, h.cells.below hb h.lt, fun i => (hb.frozen (p := ⟨b, i, none⟩) h.lt).trans (h.frz i), Nat.lt_of_lt_of_le h.lt hb.size⟩
theorem CpSt.s0 {wr : World} {b o c0 c1 : Nat} {v : World} {y : Cp} (h : CpSt wr b o c0 c1 v y) (u : ByteArray) : CpSt wr b o c0 c1 (v.setCell ⟨b, o, none⟩ (.string u)) { y with se := u } := by
  obtain ⟨h0, h1, h2, h3, h4, h5, h6⟩ := h.cells
  have ht : Touch b (b + 1) v (v.setCell ⟨b, o, none⟩ (.string u)) := Touch.setCell _ _ _ _ _ ⟨Nat.le_refl _, by simp only []; omega⟩
  have hbc := h.bc
  exact ⟨h.near.trans (Near.set _ _ _ _ _ _ _ _ (by omega) (by omega)), h.bc, ⟨World.cell?_setCell_same' _ _ _ (by rw [h0]; rfl), (cne (by omega)).trans h1, (cne (by omega)).trans h2, (cne (by omega)).trans h3, (cne (by omega)).trans h4, (cne (by omega)).trans h5, (cne (by omega)).trans h6⟩, fun i => by rw [World.frozen?_setCell]; exact h.frz i, by simpa [World.setCell] using h.lt⟩
theorem CpSt.s1 {wr : World} {b o c0 c1 : Nat} {v : World} {y : Cp} (h : CpSt wr b o c0 c1 v y) (u : Int) : CpSt wr b o c0 c1 (v.setCell ⟨b, o + 1, none⟩ (.int .i64 u)) { y with nu := u } := by
  obtain ⟨h0, h1, h2, h3, h4, h5, h6⟩ := h.cells
  have ht : Touch b (b + 1) v (v.setCell ⟨b, o + 1, none⟩ (.int .i64 u)) := Touch.setCell _ _ _ _ _ ⟨Nat.le_refl _, by simp only []; omega⟩
  have hbc := h.bc
  exact ⟨h.near.trans (Near.set _ _ _ _ _ _ _ _ (by omega) (by omega)), h.bc, ⟨(cne (by omega)).trans h0, World.cell?_setCell_same' _ _ _ (by rw [h1]; rfl), (cne (by omega)).trans h2, (cne (by omega)).trans h3, (cne (by omega)).trans h4, (cne (by omega)).trans h5, (cne (by omega)).trans h6⟩, fun i => by rw [World.frozen?_setCell]; exact h.frz i, by simpa [World.setCell] using h.lt⟩
theorem CpSt.s2 {wr : World} {b o c0 c1 : Nat} {v : World} {y : Cp} (h : CpSt wr b o c0 c1 v y) (u : Int) : CpSt wr b o c0 c1 (v.setCell ⟨b, o + 2, none⟩ (.int .i64 u)) { y with ve := u } := by
  obtain ⟨h0, h1, h2, h3, h4, h5, h6⟩ := h.cells
  have ht : Touch b (b + 1) v (v.setCell ⟨b, o + 2, none⟩ (.int .i64 u)) := Touch.setCell _ _ _ _ _ ⟨Nat.le_refl _, by simp only []; omega⟩
  have hbc := h.bc
  exact ⟨h.near.trans (Near.set _ _ _ _ _ _ _ _ (by omega) (by omega)), h.bc, ⟨(cne (by omega)).trans h0, (cne (by omega)).trans h1, World.cell?_setCell_same' _ _ _ (by rw [h2]; rfl), (cne (by omega)).trans h3, (cne (by omega)).trans h4, (cne (by omega)).trans h5, (cne (by omega)).trans h6⟩, fun i => by rw [World.frozen?_setCell]; exact h.frz i, by simpa [World.setCell] using h.lt⟩
theorem CpSt.s3 {wr : World} {b o c0 c1 : Nat} {v : World} {y : Cp} (h : CpSt wr b o c0 c1 v y) (u : Int) : CpSt wr b o c0 c1 (v.setCell ⟨b, o + 3, none⟩ (.int .i64 u)) { y with im := u } := by
  obtain ⟨h0, h1, h2, h3, h4, h5, h6⟩ := h.cells
  have ht : Touch b (b + 1) v (v.setCell ⟨b, o + 3, none⟩ (.int .i64 u)) := Touch.setCell _ _ _ _ _ ⟨Nat.le_refl _, by simp only []; omega⟩
  have hbc := h.bc
  exact ⟨h.near.trans (Near.set _ _ _ _ _ _ _ _ (by omega) (by omega)), h.bc, ⟨(cne (by omega)).trans h0, (cne (by omega)).trans h1, (cne (by omega)).trans h2, World.cell?_setCell_same' _ _ _ (by rw [h3]; rfl), (cne (by omega)).trans h4, (cne (by omega)).trans h5, (cne (by omega)).trans h6⟩, fun i => by rw [World.frozen?_setCell]; exact h.frz i, by simpa [World.setCell] using h.lt⟩
theorem CpSt.s4 {wr : World} {b o c0 c1 : Nat} {v : World} {y : Cp} (h : CpSt wr b o c0 c1 v y) (u : Int) : CpSt wr b o c0 c1 (v.setCell ⟨b, o + 4, none⟩ (.int .i64 u)) { y with st := u } := by
  obtain ⟨h0, h1, h2, h3, h4, h5, h6⟩ := h.cells
  have ht : Touch b (b + 1) v (v.setCell ⟨b, o + 4, none⟩ (.int .i64 u)) := Touch.setCell _ _ _ _ _ ⟨Nat.le_refl _, by simp only []; omega⟩
  have hbc := h.bc
  exact ⟨h.near.trans (Near.set _ _ _ _ _ _ _ _ (by omega) (by omega)), h.bc, ⟨(cne (by omega)).trans h0, (cne (by omega)).trans h1, (cne (by omega)).trans h2, (cne (by omega)).trans h3, World.cell?_setCell_same' _ _ _ (by rw [h4]; rfl), (cne (by omega)).trans h5, (cne (by omega)).trans h6⟩, fun i => by rw [World.frozen?_setCell]; exact h.frz i, by simpa [World.setCell] using h.lt⟩
theorem CpSt.s5 {wr : World} {b o c0 c1 : Nat} {v : World} {y : Cp} (h : CpSt wr b o c0 c1 v y) (u : Bool) : CpSt wr b o c0 c1 (v.setCell ⟨b, o + 5, none⟩ (.bool u)) { y with en := u } := by
  obtain ⟨h0, h1, h2, h3, h4, h5, h6⟩ := h.cells
  have ht : Touch b (b + 1) v (v.setCell ⟨b, o + 5, none⟩ (.bool u)) := Touch.setCell _ _ _ _ _ ⟨Nat.le_refl _, by simp only []; omega⟩
  have hbc := h.bc
  exact ⟨h.near.trans (Near.set _ _ _ _ _ _ _ _ (by omega) (by omega)), h.bc, ⟨(cne (by omega)).trans h0, (cne (by omega)).trans h1, (cne (by omega)).trans h2, (cne (by omega)).trans h3, (cne (by omega)).trans h4, World.cell?_setCell_same' _ _ _ (by rw [h5]; rfl), (cne (by omega)).trans h6⟩, fun i => by rw [World.frozen?_setCell]; exact h.frz i, by simpa [World.setCell] using h.lt⟩
theorem CpSt.s6 {wr : World} {b o c0 c1 : Nat} {v : World} {y : Cp} (h : CpSt wr b o c0 c1 v y) (u : ByteArray) : CpSt wr b o c0 c1 (v.setCell ⟨b, o + 6, none⟩ (.string u)) { y with be := u } := by
  obtain ⟨h0, h1, h2, h3, h4, h5, h6⟩ := h.cells
  have ht : Touch b (b + 1) v (v.setCell ⟨b, o + 6, none⟩ (.string u)) := Touch.setCell _ _ _ _ _ ⟨Nat.le_refl _, by simp only []; omega⟩
  have hbc := h.bc
  exact ⟨h.near.trans (Near.set _ _ _ _ _ _ _ _ (by omega) (by omega)), h.bc, ⟨(cne (by omega)).trans h0, (cne (by omega)).trans h1, (cne (by omega)).trans h2, (cne (by omega)).trans h3, (cne (by omega)).trans h4, (cne (by omega)).trans h5, World.cell?_setCell_same' _ _ _ (by rw [h6]; rfl)⟩, fun i => by rw [World.frozen?_setCell]; exact h.frz i, by simpa [World.setCell] using h.lt⟩
end Go.Proofs.YtemggnmooiaokaaGreat
namespace Go.Proofs.YtemggnmooiaokaaGreat
open Go.RowKit Go.Deep

set_option maxRecDepth 20000 in
set_option maxHeartbeats 8000000 in
theorem markCps_any (lo hi : Nat) (v : Value) (Xl : List Cp) (k : Int) (w : World) (hv : CpsOwn lo hi w v Xl) (hn : CpsSmall Xl) (h0 : 0 ≤ k) (hk : k ≤ 2000000000000000000) :
    Calls Tryz.prog 35 #[v, .int .i64 k] w fun e w' => e = .returned (.int .i64 (k + (posCp Xl Xl.length : Int))) ∧ Touch lo hi w w' ∧ CpsOwn lo hi w' v (mkCps k Xl) := by
  rcases hv with ⟨a, cap, rfl, rfl⟩ | ⟨b, off, cap, c, X, rfl, hne, hm, hcap, hX, hR⟩
  · go_enter Tryz.func35, Tryz.ntmps35
    go_wp2
    go_loop [5, 1] (fun i q => i = .int .i64 0 ∧ q = .int .i64 k) (fun _ _ => 0)
    case atStart => exact ⟨rfl, rfl⟩
    case round =>
      obtain ⟨rfl, rfl⟩ := hrel
      go_wp2
      go_ret
      exact ⟨by simp [posCp], Touch.refl _ _ _, Or.inl ⟨_, _, rfl, rfl⟩⟩
  · have hlen := hn.1
    have HN := hide hn
    have HX := hide hX
    have HR0 := hide hR
    have HM := hide hm
    have HC := hide hcap
    have HNE := hide hne
    clear hn hX hR hm hcap hne
    go_enter Tryz.func35, Tryz.ntmps35
    go_wp2
    go_loopw [5, 1] (fun i q wr => ∃ j : Nat, i = .int .i64 j ∧ q = .int .i64 (k + (posCp Xl j : Int)) ∧ j ≤ Xl.length ∧ Touch lo hi w wr ∧ CpRow lo hi wr b off Xl.length c (fun i => if i < j then mkCp (k + (posCp Xl i : Int)) (X i) else X i)) (fun i _ _ => Xl.length - (intOf i).toNat)
    case atStart => exact ⟨0, rfl, by simp [posCp], by omega, Touch.refl _ _ _, HR0.out.to (fun i _ => by simp)⟩
    case round =>
      obtain ⟨j, rfl, rfl, hj, ht, hr⟩ := hrel
      have HT := hide ht
      have HR := hide hr
      clear ht hr HR0
      by_cases hlt : j < Xl.length
      · have hpos := posCp_le HN.out (i := j) (by omega)
        have HP := hide (posCp_succ hlt)
        have hone : CpOne b (off + j * 7) (c j) (c (j + 1)) wr (X j) := by
          have := HR.out.row j hlt
          simp only [Nat.lt_irrefl, if_false] at this
          exact this
        have hxj : X j = Xl[j] := HX.out j hlt
        obtain ⟨x, hx⟩ : ∃ x, x = X j := ⟨_, rfl⟩
        rw [← hx] at hone
        obtain ⟨hs, hc⟩ := hone
        have HXJ := hide hxj
        have HXX := hide hx
        obtain ⟨K, hK⟩ : ∃ K, K = k + (posCp Xl j : Int) := ⟨_, rfl⟩
        rw [← hK]
        have hK0 : 0 ≤ K := by omega
        have hK1 : K ≤ 2500000000000000000 := by omega
        have HK := hide hK
        have HBC : Hid (b < c j) := Nat.lt_of_lt_of_le HR.out.bc (HR.out.le (Nat.zero_le _) (by omega))
        have HS : Hid (CpSt wr b (off + j * 7) (c j) (c (j + 1)) wr x) := ⟨Near.refl _ _ _ _ _ _, HBC.out, hc, HR.out.frz, HR.out.lt⟩
        clear hpos hxj hx hs hc hK
        obtain ⟨d0, d1, d2, d3, d4, d5, d6⟩ := HS.out.cells
        have fz := HS.out.frz
        go_wp2_with fail
        clear d0 d1 d2 d3 d4 d5 d6 fz
        refine (markText_any _ _ (by omega)).mono ?_
        rintro e v1 ⟨rfl, hb⟩
        have HS1 := hide (HS.out.below hb)
        clear hb HS
        obtain ⟨d0, d1, d2, d3, d4, d5, d6⟩ := HS1.out.cells
        have fz := HS1.out.frz
        go_wp2_with fail
        clear d0 d1 d2 d3 d4 d5 d6 fz
        obtain ⟨v2, hv2, HS2⟩ : ∃ v', v' = ((((((v1.setCell ⟨b, off + j * 7, none⟩ (.string (mtB (K)))).setCell ⟨b, off + j * 7 + 1, none⟩ (.int .i64 (K + 1))).setCell ⟨b, off + j * 7 + 2, none⟩ (.int .i64 (K + 1 + 1))).setCell ⟨b, off + j * 7 + 3, none⟩ (.int .i64 (K + 1 + 1 + 1))).setCell ⟨b, off + j * 7 + 4, none⟩ (.int .i64 (K + 1 + 1 + 1 + 1))).setCell ⟨b, off + j * 7 + 5, none⟩ (.bool (((K + 1 + 1 + 1 + 1 + 1) % 3 == 0)))) ∧ Hid (CpSt wr b (off + j * 7) (c j) (c (j + 1)) v' ⟨mtB (K), K + 1, K + 1 + 1, K + 1 + 1 + 1, K + 1 + 1 + 1 + 1, ((K + 1 + 1 + 1 + 1 + 1) % 3 == 0), x.be⟩) := ⟨_, rfl, ((((((HS1.out.s0 (mtB (K))).s1 (K + 1)).s2 (K + 1 + 1)).s3 (K + 1 + 1 + 1)).s4 (K + 1 + 1 + 1 + 1)).s5 (((K + 1 + 1 + 1 + 1 + 1) % 3 == 0)))⟩
        rw [← hv2]
        clear hv2 HS1
        refine (markText_any _ _ (by omega)).mono ?_
        rintro e v3 ⟨rfl, hb⟩
        have HS3 := hide (HS2.out.below hb)
        clear hb HS2
        obtain ⟨d0, d1, d2, d3, d4, d5, d6⟩ := HS3.out.cells
        have fz := HS3.out.frz
        go_wp2
        clear d0 d1 d2 d3 d4 d5 d6 fz
        obtain ⟨v4, hv4, HS4⟩ : ∃ v', v' = (v3.setCell ⟨b, off + j * 7 + 6, none⟩ (.string (mtB (K + 1 + 1 + 1 + 1 + 1 + 1)))) ∧ Hid (CpSt wr b (off + j * 7) (c j) (c (j + 1)) v' ⟨mtB (K), K + 1, K + 1 + 1, K + 1 + 1 + 1, K + 1 + 1 + 1 + 1, ((K + 1 + 1 + 1 + 1 + 1) % 3 == 0), mtB (K + 1 + 1 + 1 + 1 + 1 + 1)⟩) := ⟨_, rfl, (HS3.out.s6 (mtB (K + 1 + 1 + 1 + 1 + 1 + 1)))⟩
        rw [← hv4]
        clear hv4 HS3
        have HW : Hid (wdCp Xl[j] = 7) := by unfold Hid; rw [← HXJ.out, ← HXX.out]; rfl
        have HQ : Hid ((K + 1 + 1 + 1 + 1 + 1 + 1 + 1 : Int) = k + (posCp Xl (j + 1) : Int)) := by
          have h1 := HP.out
          have h2 := HW.out
          have h3 := HK.out
          unfold Hid
          omega
        have HRN := hide (HR.out.near hlt HS4.out.near (show CpOne b (off + j * 7) (c j) (c (j + 1)) v4 (mkCp K x) from ⟨⟨mt_size _ (by omega), mt_size _ (by omega)⟩, HS4.out.cells⟩))
        have HTN := hide (HS4.out.near.wide HR.out.lt (lo' := lo) (hi' := hi) (by have := HBC.out; have := HR.out.low; omega) (Nat.le_trans (HR.out.le (by omega) (Nat.le_refl _)) HR.out.top) ⟨HR.out.low, HR.out.bh⟩)
        go_roundw
        case rel =>
          refine ⟨j + 1, by go_num, congrArg (Value.int .i64) HQ.out, by omega, HT.out.trans HTN.out, HRN.out.to (fun i hi' => ?_)⟩
          by_cases e : i = j
          · subst e
            rw [if_pos rfl, if_pos (by omega), ← HK.out, HXX.out]
          · rw [if_neg e]
            by_cases e2 : i < j
            · rw [if_pos e2, if_pos (by omega)]
            · rw [if_neg e2, if_neg (by omega)]
        case measure => simp [intOf]; omega
      · have e : j = Xl.length := by omega
        subst e
        go_wp2
        go_ret
        refine ⟨rfl, HT.out, Or.inr ⟨b, off, cap, c, fun i => mkCp (k + (posCp Xl i : Int)) (X i), by rw [mkCps_len], ?_, by rw [mkCps_len]; exact HM.out, by rw [mkCps_len]; exact HC.out, fun i h => ?_, ?_⟩⟩
        · intro e
          have := congrArg List.length e
          rw [mkCps_len] at this
          exact HNE.out (List.length_eq_zero_iff.1 (by simpa using this))
        · have h' : i < Xl.length := by rw [mkCps_len] at h; exact h
          rw [mkCps_get _ _ _ _ h', ← HX.out i h']
        · rw [mkCps_len]
          exact HR.out.to (fun i hi' => by rw [if_pos hi'])
end Go.Proofs.YtemggnmooiaokaaGreat
namespace Go.Proofs.YtemggnmooiaokaaGreat
open Go.RowKit Go.Deep

end Go.Proofs.YtemggnmooiaokaaGreat
namespace Go.Proofs.YtemggnmooiaokaaGreat
open Go.RowKit Go.Deep

end Go.Proofs.YtemggnmooiaokaaGreat
