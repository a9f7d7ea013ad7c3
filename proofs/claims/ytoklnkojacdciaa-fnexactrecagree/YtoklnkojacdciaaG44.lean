import Derived.Test.YtoklnkojacdciaaG09
import Derived.Test.YtoklnkojacdciaaG10
namespace Go.Proofs.Ytoklnkojacdciaa
open Go.RowKit Go.Deep

def RsOne (b o _c0 _c1 : Nat) (w : World) (x : Rs) : Prop := RsSize x ∧ RsCells w b o x
theorem RsOne.near {b o c0 c1 o1 d0 d1 : Nat} {w w' : World} {x : Rs} (h : RsOne b o c0 c1 w x) (hn : Near b o1 2 d0 d1 w w') (ho : o + 2 ≤ o1 ∨ o1 + 2 ≤ o) (hi : c1 ≤ d0 ∨ d1 ≤ c0) (hb : b < c0 ∨ c1 ≤ b) : RsOne b o c0 c1 w' x := by
  obtain ⟨hs, hc⟩ := h
  obtain ⟨h0, h1⟩ := hc
  have e : ∀ t, t < 2 → w'.cell? ⟨b, o + t, none⟩ = w.cell? ⟨b, o + t, none⟩ := fun t ht => hn.cell _ (by omega)
  have e0 : w'.cell? ⟨b, o, none⟩ = w.cell? ⟨b, o, none⟩ := hn.cell _ (by omega)
  exact ⟨hs, ⟨e0.trans h0, (e 1 (by omega)).trans h1⟩⟩
theorem RsOne.touch {b o c0 c1 : Nat} {lo hi : Nat} {w w' : World} {x : Rs} (h : RsOne b o c0 c1 w x) (ht : Touch lo hi w w') (hlt : b < w.heap.size) (hb : b < lo ∨ hi ≤ b) (_hi : c1 ≤ lo ∨ hi ≤ c0) : RsOne b o c0 c1 w' x := by
  obtain ⟨hs, hc⟩ := h
  obtain ⟨h0, h1⟩ := hc
  exact ⟨hs, ⟨(ht.cell (p := ⟨b, o, none⟩) hlt hb).trans h0, (ht.cell (p := ⟨b, o + 1, none⟩) hlt hb).trans h1⟩⟩
theorem RsOne.below {b o c0 c1 : Nat}  {w w' : World} {x : Rs} (h : RsOne b o c0 c1 w x) (ht : Below w.heap.size w w') (hlt : b < w.heap.size) : RsOne b o c0 c1 w' x := by
  obtain ⟨hs, hc⟩ := h
  obtain ⟨h0, h1⟩ := hc
  exact ⟨hs, ⟨(ht.cell (p := ⟨b, o, none⟩) hlt).trans h0, (ht.cell (p := ⟨b, o + 1, none⟩) hlt).trans h1⟩⟩
structure RsRow (lo hi : Nat) (w : World) (b off n : Nat) (c : Nat → Nat) (X : Nat → Rs) : Prop where
  lt : b < w.heap.size
  low : lo ≤ b
  bc : b < c 0
  bh : b < hi
  mono : ∀ i, i < n → c i ≤ c (i + 1)
  top : c n ≤ hi
  frz : ∀ i, w.frozen? ⟨b, i, none⟩ = false
  row : ∀ i, i < n → RsOne b (off + i * 2) (c i) (c (i + 1)) w (X i)
theorem RsRow.le {lo hi : Nat} {w : World} {b off n : Nat} {c : Nat → Nat} {X : Nat → Rs} (h : RsRow lo hi w b off n c X) {i : Nat} : ∀ {j : Nat}, i ≤ j → j ≤ n → c i ≤ c j := by
  intro j
  induction j with
  | zero => intro hij _; have : i = 0 := by omega
            subst this; exact Nat.le_refl _
  | succ j ih =>
    intro hij hjn
    by_cases e : i = j + 1
    · subst e; exact Nat.le_refl _
    · exact Nat.le_trans (ih (by omega) (by omega)) (h.mono j (by omega))
theorem RsRow.near {lo hi : Nat} {w w' : World} {b off n : Nat} {c : Nat → Nat} {X : Nat → Rs} (h : RsRow lo hi w b off n c X) {j : Nat} (hj : j < n) (hn : Near b (off + j * 2) 2 (c j) (c (j + 1)) w w') {x : Rs} (hx : RsOne b (off + j * 2) (c j) (c (j + 1)) w' x) : RsRow lo hi w' b off n c (fun i => if i = j then x else X i) := by
  refine ⟨Nat.lt_of_lt_of_le h.lt hn.size, h.low, h.bc, h.bh, h.mono, h.top, fun i => (hn.frz i).trans (h.frz i), fun i hi' => ?_⟩
  by_cases e : i = j
  · subst e; rw [if_pos rfl]; exact hx
  · rw [if_neg e]
    have h0 := h.le (Nat.zero_le i) (by omega)
    have hbc := h.bc
    refine (h.row i hi').near hn (by omega) ?_ (by omega)
    rcases Nat.lt_or_ge i j with hij | hij
    · exact Or.inl (h.le (by omega) (by omega))
    · exact Or.inr (h.le (by omega) (by omega))
theorem RsRow.touch {lo hi lo' hi' : Nat} {w w' : World} {b off n : Nat} {c : Nat → Nat} {X : Nat → Rs} (h : RsRow lo hi w b off n c X) (ht : Touch lo' hi' w w') (ho : hi ≤ lo' ∨ hi' ≤ lo) : RsRow lo hi w' b off n c X := by
  have h1 := h.low
  have h2 := h.bh
  have h3 := h.top
  have h4 := h.bc
  refine ⟨Nat.lt_of_lt_of_le h.lt ht.size, h.low, h.bc, h.bh, h.mono, h.top, fun i => (ht.frozen (p := ⟨b, i, none⟩) h.lt (by simp only []; omega)).trans (h.frz i), fun i hi' => ?_⟩
  have h5 := h.le (Nat.zero_le i) (by omega)
  have h6 := h.le (i := i + 1) (j := n) (by omega) (Nat.le_refl _)
  exact (h.row i hi').touch ht h.lt (by omega) (by omega)
theorem RsRow.below {lo hi : Nat} {w w' : World} {b off n : Nat} {c : Nat → Nat} {X : Nat → Rs} (h : RsRow lo hi w b off n c X) (ht : Below w.heap.size w w') : RsRow lo hi w' b off n c X :=
  ⟨Nat.lt_of_lt_of_le h.lt ht.size, h.low, h.bc, h.bh, h.mono, h.top, fun i => (ht.frozen (p := ⟨b, i, none⟩) h.lt).trans (h.frz i), fun i hi' => (h.row i hi').below ht h.lt⟩
theorem RsRow.to {lo hi : Nat} {w : World} {b off n : Nat} {c : Nat → Nat} {X Y : Nat → Rs} (h : RsRow lo hi w b off n c X) (e : ∀ i, i < n → X i = Y i) : RsRow lo hi w b off n c Y :=
  ⟨h.lt, h.low, h.bc, h.bh, h.mono, h.top, h.frz, fun i hi' => e i hi' ▸ h.row i hi'⟩
/-- a list of one's own -/
def RssOwn (lo hi : Nat) (w : World) (v : Value) (Xl : List Rs) : Prop :=
  (∃ (a : Option Addr) (cap : Nat), v = .slice a 0 cap ∧ Xl = []) ∨
  ∃ (b off cap : Nat) (c : Nat → Nat) (X : Nat → Rs), v = .slice (some ⟨b, off, none⟩) Xl.length cap ∧ Xl ≠ [] ∧ Xl.length ≤ maxLen ∧ Xl.length ≤ cap ∧ (∀ i (h : i < Xl.length), X i = Xl[i]) ∧ RsRow lo hi w b off Xl.length c X
theorem RssOwn.touch {lo hi lo' hi' : Nat} {w w' : World} {v : Value} {Xl : List Rs} (h : RssOwn lo hi w v Xl) (ht : Touch lo' hi' w w') (ho : hi ≤ lo' ∨ hi' ≤ lo) : RssOwn lo hi w' v Xl := by
  rcases h with h | ⟨b, off, cap, c, X, h1, h2, h3, h4, h5, h6⟩
  · exact Or.inl h
  · exact Or.inr ⟨b, off, cap, c, X, h1, h2, h3, h4, h5, h6.touch ht ho⟩
theorem RssOwn.below {lo hi : Nat} {w w' : World} {v : Value} {Xl : List Rs} (h : RssOwn lo hi w v Xl) (ht : Below w.heap.size w w') : RssOwn lo hi w' v Xl := by
  rcases h with h | ⟨b, off, cap, c, X, h1, h2, h3, h4, h5, h6⟩
  · exact Or.inl h
  · exact Or.inr ⟨b, off, cap, c, X, h1, h2, h3, h4, h5, h6.below ht⟩
theorem RssOwn.form {lo hi : Nat} {w : World} {v : Value} {Xl : List Rs} (h : RssOwn lo hi w v Xl) : ∃ a cap, v = .slice a Xl.length cap := by
  rcases h with ⟨a, cap, h, rfl⟩ | ⟨b, off, cap, c, X, h1, _⟩
  · exact ⟨a, cap, h⟩
  · exact ⟨_, cap, h1⟩
theorem RssOwn.at {lo hi : Nat} {w : World} {v : Value} {Xl : List Rs} (h : RssOwn lo hi w v Xl) : RssAt lo w v Xl := by
  rcases h with h | ⟨b, off, cap, c, X, h1, h2, h3, h4, h5, h6⟩
  · exact Or.inl h
  · refine Or.inr ⟨b, off, cap, h1, h2, h3, h6.lt, h6.low, h4, fun i hi' => ?_⟩
    have hr := h6.row i hi'
    rw [h5 i hi'] at hr
    obtain ⟨hs, hc⟩ := hr
    exact ⟨hs, hc⟩
/-- marks from k on -/
def mkRs (k : Int) (_x : Rs) : Rs := ⟨k, mtB (k + 1)⟩
def wdRs (_x : Rs) : Nat := 2
def posRs (Xl : List Rs) (i : Nat) : Nat := ((Xl.take i).map wdRs).sum
def mkRss (k : Int) (Xl : List Rs) : List Rs := Xl.mapIdx (fun i x => mkRs (k + (posRs Xl i : Int)) x)
theorem mkRss_len (k : Int) (Xl : List Rs) : (mkRss k Xl).length = Xl.length := by unfold mkRss; simp
theorem mkRss_get (k : Int) (Xl : List Rs) (i : Nat) (h : i < (mkRss k Xl).length) (h' : i < Xl.length) : (mkRss k Xl)[i] = mkRs (k + (posRs Xl i : Int)) Xl[i] := List.getElem_mapIdx (f := fun i x => mkRs (k + (posRs Xl i : Int)) x) (h := h)
theorem posRs_succ {Xl : List Rs} {i : Nat} (h : i < Xl.length) : posRs Xl (i + 1) = posRs Xl i + wdRs Xl[i] := by
  unfold posRs
  rw [List.take_succ_eq_append_getElem h, List.map_append, List.sum_append]
  simp
theorem posRs_le {Xl : List Rs} (_hn : RssSmall Xl) : ∀ {i : Nat}, i ≤ Xl.length → posRs Xl i ≤ i * 3000000 := by
  intro i
  induction i with
  | zero => intro _; simp [posRs]
  | succ i ih =>
    intro hi'
    have h1 := ih (by omega)
    rw [posRs_succ (by omega)]
    have h2 : wdRs Xl[i] ≤ 3000000 := by
      unfold wdRs
      omega
    omega
theorem posRs_all {Xl : List Rs} {i : Nat} (h : Xl.length ≤ i) : posRs Xl i = posRs Xl Xl.length := by
  unfold posRs
  rw [List.take_of_length_le h, List.take_of_length_le (Nat.le_refl _)]
structure RsSt (wr : World) (b o c0 c1 : Nat) (v : World) (y : Rs) : Prop where
  near : Near b o 2 c0 c1 wr v
  bc : b < c0
  cells : RsCells v b o y
  frz : ∀ i, v.frozen? ⟨b, i, none⟩ = false
  lt : b < v.heap.size
theorem RsSt.below {wr : World} {b o c0 c1 : Nat} {v v' : World} {y : Rs} (h : RsSt wr b o c0 c1 v y) (hb : Below v.heap.size v v') : RsSt wr b o c0 c1 v' y :=
  ⟨h.near.trans (Near.below hb h.lt), h.bc, h.cells.below hb h.lt, fun i => (hb.frozen (p := ⟨b, i, none⟩) h.lt).trans (h.frz i), Nat.lt_of_lt_of_le h.lt hb.size⟩
theorem RsSt.s0 {wr : World} {b o c0 c1 : Nat} {v : World} {y : Rs} (h : RsSt wr b o c0 c1 v y) (u : Int) : RsSt wr b o c0 c1 (v.setCell ⟨b, o, none⟩ (.int .i64 u)) { y with ba := u } := by
  obtain ⟨h0, h1⟩ := h.cells
  have ht : Touch b (b + 1) v (v.setCell ⟨b, o, none⟩ (.int .i64 u)) := Touch.setCell _ _ _ _ _ ⟨Nat.le_refl _, by simp only []; omega⟩
  have hbc := h.bc
  exact ⟨h.near.trans (Near.set _ _ _ _ _ _ _ _ (by omega) (by omega)), h.bc, ⟨World.cell?_setCell_same' _ _ _ (by rw [h0]; rfl), (cne (by omega)).trans h1⟩, fun i => by rw [World.frozen?_setCell]; exact h.frz i, by simpa [World.setCell] using h.lt⟩
theorem RsSt.s1 {wr : World} {b o c0 c1 : Nat} {v : World} {y : Rs} (h : RsSt wr b o c0 c1 v y) (u : ByteArray) : RsSt wr b o c0 c1 (v.setCell ⟨b, o + 1, none⟩ (.string u)) { y with tx := u } := by
  obtain ⟨h0, h1⟩ := h.cells
  have ht : Touch b (b + 1) v (v.setCell ⟨b, o + 1, none⟩ (.string u)) := Touch.setCell _ _ _ _ _ ⟨Nat.le_refl _, by simp only []; omega⟩
  have hbc := h.bc
  exact ⟨h.near.trans (Near.set _ _ _ _ _ _ _ _ (by omega) (by omega)), h.bc, ⟨(cne (by omega)).trans h0, World.cell?_setCell_same' _ _ _ (by rw [h1]; rfl)⟩, fun i => by rw [World.frozen?_setCell]; exact h.frz i, by simpa [World.setCell] using h.lt⟩
end Go.Proofs.Ytoklnkojacdciaa
namespace Go.Proofs.Ytoklnkojacdciaa
open Go.RowKit Go.Deep

/-- texts of one's own -/
def RtsOwn (lo hi : Nat) (w : World) (v : Value) (L : List ByteArray) : Prop :=
  (∃ (a : Option Addr) (cap : Nat), v = .slice a 0 cap ∧ L = []) ∨
  ∃ (b off cap : Nat), v = .slice (some ⟨b, off, none⟩) L.length cap ∧ L ≠ [] ∧ L.length ≤ maxLen ∧ L.length ≤ cap ∧ b < w.heap.size ∧
    (∀ i (h : i < L.length), L[i].size ≤ maxLen ∧ w.cell? ⟨b, off + i, none⟩ = some (.string L[i])) ∧ lo ≤ b ∧ b < hi ∧ ∀ i, w.frozen? ⟨b, off + i, none⟩ = false
theorem RtsOwn.below {lo hi : Nat} {w w' : World} {v : Value} {L : List ByteArray} (h : RtsOwn lo hi w v L) (hb : Below w.heap.size w w') : RtsOwn lo hi w' v L := by
  rcases h with h | ⟨g, off, cap, h1, h2, h3, hcp, h4, h5, h7, h8, h9⟩
  · exact Or.inl h
  · exact Or.inr ⟨g, off, cap, h1, h2, h3, hcp, Nat.lt_of_lt_of_le h4 hb.size, fun i hi' => ⟨(h5 i hi').1, (hb.cell (p := ⟨g, off + i, none⟩) h4).trans (h5 i hi').2⟩, h7, h8, fun i => (hb.frozen (p := ⟨g, off + i, none⟩) h4).trans (h9 i)⟩
theorem RtsOwn.touch {lo hi lo' hi' : Nat} {w w' : World} {v : Value} {L : List ByteArray} (h : RtsOwn lo hi w v L) (ht : Touch lo' hi' w w') (ho : hi ≤ lo' ∨ hi' ≤ lo) : RtsOwn lo hi w' v L := by
  rcases h with h | ⟨b, off, cap, h1, h2, h3, hcp, h4, h5, h7, h8, h9⟩
  · exact Or.inl h
  · exact Or.inr ⟨b, off, cap, h1, h2, h3, hcp, Nat.lt_of_lt_of_le h4 ht.size, fun i hi' => ⟨(h5 i hi').1, (ht.cell (p := ⟨b, off + i, none⟩) h4 (by simp only []; omega)).trans (h5 i hi').2⟩, h7, h8, fun i => (ht.frozen (p := ⟨b, off + i, none⟩) h4 (by simp only []; omega)).trans (h9 i)⟩
theorem RtsOwn.at {lo hi : Nat} {w : World} {v : Value} {L : List ByteArray} (h : RtsOwn lo hi w v L) : RtsAt lo w v L := by
  rcases h with h | ⟨g, off, cap, h1, h2, h3, hcp, h4, h5, h7, h8, h9⟩
  · exact Or.inl h
  · exact Or.inr ⟨g, off, cap, h1, h2, h3, h4, h7, hcp, h5⟩
theorem RtsOwn.wide {lo hi lo' hi' : Nat} {w : World} {v : Value} {L : List ByteArray} (h : RtsOwn lo hi w v L) (h1 : lo' ≤ lo) (h2 : hi ≤ hi') : RtsOwn lo' hi' w v L := by
  rcases h with h | ⟨g, off, cap, e1, e2, e3, hcp, e4, e5, e7, e8, e9⟩
  · exact Or.inl h
  · exact Or.inr ⟨g, off, cap, e1, e2, e3, hcp, e4, e5, by omega, by omega, e9⟩
theorem RtsOwn.form {lo hi : Nat} {w : World} {v : Value} {L : List ByteArray} (h : RtsOwn lo hi w v L) : ∃ a cap, v = .slice a L.length cap := by
  rcases h with ⟨a, cap, h, rfl⟩ | ⟨b, off, cap, h, _⟩
  · exact ⟨a, cap, h⟩
  · exact ⟨_, cap, h⟩
def tmarks (k : Int) (n : Nat) : List ByteArray := (List.range n).map fun (i : Nat) => mtB (k + (i : Int))
theorem tmarks_len (k : Int) (n : Nat) : (tmarks k n).length = n := by simp [tmarks]
theorem tmarks_get (k : Int) (n i : Nat) (h : i < (tmarks k n).length) : (tmarks k n)[i] = mtB (k + i) := by simp [tmarks]

set_option maxHeartbeats 2000000 in
theorem markRts_any (lo hi : Nat) (v : Value) (L : List ByteArray) (k : Int) (w : World) (hv : RtsOwn lo hi w v L) (h0 : 0 ≤ k) (hk : k + L.length ≤ 4000000000000000000) :
    Calls Try.prog 56 #[v, .int .i64 k] w fun e w' => e = .returned (.int .i64 (k + L.length)) ∧ Touch lo hi w w' ∧ RtsOwn lo hi w' v (tmarks k L.length) := by
  rcases hv with ⟨a, cap, rfl, rfl⟩ | ⟨b, off, cap, rfl, hne, hm, hcp, hbw, hc, hlo, hhi, hfr⟩
  · go_enter Try.func56, Try.ntmps56
    go_wp2
    go_loop [5, 1] (fun i q => i = .int .i64 0 ∧ q = .int .i64 k) (fun _ _ => 0)
    case atStart => exact ⟨rfl, rfl⟩
    case round =>
      obtain ⟨rfl, rfl⟩ := hrel
      go_wp2
      go_ret
      exact ⟨by simp, Touch.refl _ _ _, Or.inl ⟨_, _, rfl, rfl⟩⟩
  · unfold maxLen at hm
    go_enter Try.func56, Try.ntmps56
    go_wp2
    go_loopw [5, 1] (fun i q wr => ∃ j : Nat, i = .int .i64 j ∧ q = .int .i64 (k + j) ∧ j ≤ L.length ∧ Touch lo hi w wr ∧ (∀ i, i < j → wr.cell? ⟨b, off + i, none⟩ = some (.string (mtB (k + i)))) ∧ (∀ i (h : i < L.length), j ≤ i → wr.cell? ⟨b, off + i, none⟩ = some (.string L[i])) ∧ ∀ i, wr.frozen? ⟨b, off + i, none⟩ = false) (fun i _ _ => L.length - (intOf i).toNat)
    case atStart => exact ⟨0, rfl, by simp, by omega, Touch.refl _ _ _, fun i h => by omega, fun i h _ => (hc i h).2, hfr⟩
    case round =>
      obtain ⟨j, rfl, rfl, hj, ht, hA, hB, hF⟩ := hrel
      have HT := hide ht
      have HA := hide hA
      have HBB := hide hB
      have HF := hide hF
      clear ht hA hB hF
      by_cases hlt : j < L.length
      · go_wp2_with fail
        refine (markText_any _ _ (by omega)).mono ?_
        rintro e w1 ⟨rfl, hb⟩
        have hbl : b < wr.heap.size := Nat.lt_of_lt_of_le hbw HT.out.size
        have HT1 : Hid (Touch lo hi w w1) := HT.out.trans (Touch.below hb)
        have hcj : w1.cell? ⟨b, off + j, none⟩ = some (.string L[j]) := (hb.cell (p := ⟨b, off + j, none⟩) hbl).trans (HBB.out j hlt (Nat.le_refl _))
        have hfj : w1.frozen? ⟨b, off + j, none⟩ = false := (hb.frozen (p := ⟨b, off + j, none⟩) hbl).trans (HF.out j)
        have HA1 : Hid (∀ i, i < j → w1.cell? ⟨b, off + i, none⟩ = some (.string (mtB (k + i)))) := fun i hi' => (hb.cell (p := ⟨b, off + i, none⟩) hbl).trans (HA.out i hi')
        have HB1 : Hid (∀ i (h : i < L.length), j ≤ i → w1.cell? ⟨b, off + i, none⟩ = some (.string L[i])) := fun i h hi' => (hb.cell (p := ⟨b, off + i, none⟩) hbl).trans (HBB.out i h hi')
        have HF1 : Hid (∀ i, w1.frozen? ⟨b, off + i, none⟩ = false) := fun i => (hb.frozen (p := ⟨b, off + i, none⟩) hbl).trans (HF.out i)
        clear hb hbl
        go_wp2
        go_roundw
        case rel =>
          refine ⟨j + 1, by go_num, by go_num, by omega, HT1.out.trans (Touch.setCell _ _ _ _ _ ⟨hlo, hhi⟩), fun i hi' => ?_, fun i h hi' => ?_, fun i => ?_⟩
          · by_cases e : i = j
            · subst e; exact World.cell?_setCell_same' _ _ _ (by rw [hcj]; rfl)
            · rw [show (w1.setCell ⟨b, off + j, none⟩ (.string (mtB (k + j)))).cell? ⟨b, off + i, none⟩ = w1.cell? ⟨b, off + i, none⟩ from by apply World.cell?_setCell_other; simp only [ne_eq, Addr.mk.injEq, not_and]; omega]
              exact HA1.out i (by omega)
          · rw [show (w1.setCell ⟨b, off + j, none⟩ (.string (mtB (k + j)))).cell? ⟨b, off + i, none⟩ = w1.cell? ⟨b, off + i, none⟩ from by apply World.cell?_setCell_other; simp only [ne_eq, Addr.mk.injEq, not_and]; omega]
            exact HB1.out i h (by omega)
          · rw [World.frozen?_setCell]
            exact HF1.out i
        case measure => simp [intOf]; omega
      · have e : j = L.length := by omega
        subst e
        go_wp2
        go_ret
        refine ⟨rfl, HT.out, Or.inr ⟨b, off, cap, by rw [tmarks_len], ?_, by rw [tmarks_len]; unfold maxLen; omega, by rw [tmarks_len]; exact hcp, Nat.lt_of_lt_of_le hbw HT.out.size, fun i h => ?_, hlo, hhi, HF.out⟩⟩
        · intro e; have := congrArg List.length e; rw [tmarks_len] at this; simp at this; exact hne this
        · rw [tmarks_get]
          rw [tmarks_len] at h
          exact ⟨mt_size _ (by omega), HA.out i h⟩

set_option maxRecDepth 20000 in
set_option maxHeartbeats 2000000 in
theorem heldRts_any (lo : Nat) (v : Value) (n : Nat) (k : Int) (w : World) (hv : RtsAt lo w v (tmarks k n)) (h0 : 0 ≤ k) (hk : k + n ≤ 4000000000000000000) :
    Calls Try.prog 61 #[v, .int .i64 k] w fun e w' => e = .returned (.int .i64 (k + n)) ∧ Below w.heap.size w w' := by
  have HV := hide hv
  obtain ⟨a, cap, rfl⟩ := hv.form
  clear hv
  rw [tmarks_len] at HV
  rw [tmarks_len]
  go_enter Try.func61, Try.ntmps61
  go_wp2
  go_loopw [5, 1] (fun i q wr => ∃ j : Nat, i = .int .i64 j ∧ q = .int .i64 (k + j) ∧ j ≤ n ∧ Below w.heap.size w wr) (fun i _ _ => n - (intOf i).toNat)
  case atStart => exact ⟨0, rfl, by simp, by omega, Below.refl _ _⟩
  case round =>
    obtain ⟨j, rfl, rfl, hj, hb⟩ := hrel
    have HB0 := hide hb
    clear hb
    by_cases hlt : j < n
    · obtain ⟨b, off, rfl, hbw, -, hc⟩ := HV.out.full' (by rw [tmarks_len]; omega)
      have hcj : w.cell? ⟨b, off + j, none⟩ = some (.string (mtB (k + j))) := by rw [(hc j (by rw [tmarks_len]; omega)).2, tmarks_get]
      have d1 : wr.cell? ⟨b, off + j, none⟩ = some (.string (mtB (k + j))) := (HB0.out.cell (p := ⟨b, off + j, none⟩) hbw).trans hcj
      have x0 : ∀ X : In (Up wr), X.w.cell? ⟨b, off + j, none⟩ = some (.string (mtB (k + j))) := fun X => Up.cell X d1
      have xn : Nonempty (In (Up wr)) := ⟨⟨wr, Below.refl _ _⟩⟩
      have xs := fun (X : In (Up wr)) => in_self X
      have i0 : (0 : Int) ≤ (j : Int) := by omega
      have i1 : (j : Int) < (n : Int) := by omega
      clear hc hcj
      go_wp2
      clear d1
      refine wp_region_class (Up wr) (by kernel_rfl) (by kernel_rfl) ((Below.refl _ _).drew) ?_
      repeat (go_big_quiet_step (first | (go_at_call 59; rename_i X; exact (markText_any _ _ (by omega)).mono fun _ _ h => ⟨h.1, Up.next X h.2⟩)))
      refine wpQuiet_nil ?_
      intro w1 hw
      obtain ⟨Y, hY⟩ := hw
      have HB1 : Hid (Below w.heap.size w w1) := HB0.out.trans (Below.mono (show Below wr.heap.size wr w1 by rw [hY]; exact Y.h) HB0.out.size)
      clear hY Y x0 xs xn HB0
      go_wp2
      go_roundw
      case rel => exact ⟨j + 1, by go_num, by go_num, by omega, HB1.out⟩
      case measure => simp [intOf]; omega
    · have e : j = n := by omega
      subst e
      go_wp2
      go_ret
      exact ⟨rfl, HB0.out⟩
end Go.Proofs.Ytoklnkojacdciaa
