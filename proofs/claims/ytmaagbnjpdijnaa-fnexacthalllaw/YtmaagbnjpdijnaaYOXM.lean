import Derived.Test.YtmaagbnjpdijnaaYOWX
import Derived.Test.YtmaagbnjpdijnaaYNN
import Derived.Test.YtmaagbnjpdijnaaYP1
import Derived.Test.YtmaagbnjpdijnaaYM2
import Derived.Test.YtmaagbnjpdijnaaYM1
import Derived.Test.YtmaagbnjpdijnaaYA1
import Derived.Test.YtmaagbnjpdijnaaYTD
namespace Go.Proofs.Ytmaagbnjpdijnaa
open Go.RowKit Go.Deep

def MdSmall (_ : Md) : Prop := True
def MdsSmall (Xl : List Md) : Prop := Xl.length ≤ 1048576 ∧ ∀ i (h : i < Xl.length), MdSmall Xl[i]
def MdOne (b o _c0 _c1 : Nat) (w : World) (x : Md) : Prop := MdSize x ∧ MdCells w b o x
theorem MdOne.near {b o c0 c1 o1 d0 d1 : Nat} {w w' : World} {x : Md} (h : MdOne b o c0 c1 w x) (hn : Near b o1 6 d0 d1 w w') (ho : o + 6 ≤ o1 ∨ o1 + 6 ≤ o) (hi : c1 ≤ d0 ∨ d1 ≤ c0) (hb : b < c0 ∨ c1 ≤ b) : MdOne b o c0 c1 w' x := by
  obtain ⟨hs, hc⟩ := h
  obtain ⟨h0, h1, h2, h3, h4, h5⟩ := hc
  have e : ∀ t, t < 6 → w'.cell? ⟨b, o + t, none⟩ = w.cell? ⟨b, o + t, none⟩ := fun t ht => hn.cell _ (by omega)
  have e0 : w'.cell? ⟨b, o, none⟩ = w.cell? ⟨b, o, none⟩ := hn.cell _ (by omega)
  exact ⟨hs, ⟨e0.trans h0, (e 1 (by omega)).trans h1, (e 2 (by omega)).trans h2, (e 3 (by omega)).trans h3, (e 4 (by omega)).trans h4, (e 5 (by omega)).trans h5⟩⟩
theorem MdOne.touch {b o c0 c1 : Nat} {lo hi : Nat} {w w' : World} {x : Md} (h : MdOne b o c0 c1 w x) (ht : Touch lo hi w w') (hlt : b < w.heap.size) (hb : b < lo ∨ hi ≤ b) (_hi : c1 ≤ lo ∨ hi ≤ c0) : MdOne b o c0 c1 w' x := by
  obtain ⟨hs, hc⟩ := h
  obtain ⟨h0, h1, h2, h3, h4, h5⟩ := hc
  exact ⟨hs, ⟨(ht.cell (p := ⟨b, o, none⟩) hlt hb).trans h0, (ht.cell (p := ⟨b, o + 1, none⟩) hlt hb).trans h1, (ht.cell (p := ⟨b, o + 2, none⟩) hlt hb).trans h2, (ht.cell (p := ⟨b, o + 3, none⟩) hlt hb).trans h3, (ht.cell (p := ⟨b, o + 4, none⟩) hlt hb).trans h4, (ht.cell (p := ⟨b, o + 5, none⟩) hlt hb).trans h5⟩⟩
theorem MdOne.below {b o c0 c1 : Nat}  {w w' : World} {x : Md} (h : MdOne b o c0 c1 w x) (ht : Below w.heap.size w w') (hlt : b < w.heap.size) : MdOne b o c0 c1 w' x := by
  obtain ⟨hs, hc⟩ := h
  obtain ⟨h0, h1, h2, h3, h4, h5⟩ := hc
  exact ⟨hs, ⟨(ht.cell (p := ⟨b, o, none⟩) hlt).trans h0, (ht.cell (p := ⟨b, o + 1, none⟩) hlt).trans h1, (ht.cell (p := ⟨b, o + 2, none⟩) hlt).trans h2, (ht.cell (p := ⟨b, o + 3, none⟩) hlt).trans h3, (ht.cell (p := ⟨b, o + 4, none⟩) hlt).trans h4, (ht.cell (p := ⟨b, o + 5, none⟩) hlt).trans h5⟩⟩
structure MdRow (lo hi : Nat) (w : World) (b off n : Nat) (c : Nat → Nat) (X : Nat → Md) : Prop where
  lt : b < w.heap.size
  low : lo ≤ b
  bc : b < c 0
  bh : b < hi
  mono : ∀ i, i < n → c i ≤ c (i + 1)
  top : c n ≤ hi
  frz : ∀ i, w.frozen? ⟨b, i, none⟩ = false
  row : ∀ i, i < n → MdOne b (off + i * 6) (c i) (c (i + 1)) w (X i)
theorem MdRow.le {lo hi : Nat} {w : World} {b off n : Nat} {c : Nat → Nat} {X : Nat → Md} (h : MdRow lo hi w b off n c X) {i : Nat} : ∀ {j : Nat}, i ≤ j → j ≤ n → c i ≤ c j := by
  intro j
  induction j with
  | zero => intro hij _; have : i = 0 := by omega
            subst this; exact Nat.le_refl _
  | succ j ih =>
    intro hij hjn
    by_cases e : i = j + 1
    · subst e; exact Nat.le_refl _
    · exact Nat.le_trans (ih (by omega) (by omega)) (h.mono j (by omega))
theorem MdRow.near {lo hi : Nat} {w w' : World} {b off n : Nat} {c : Nat → Nat} {X : Nat → Md} (h : MdRow lo hi w b off n c X) {j : Nat} (hj : j < n) (hn : Near b (off + j * 6) 6 (c j) (c (j + 1)) w w') {x : Md} (hx : MdOne b (off + j * 6) (c j) (c (j + 1)) w' x) : MdRow lo hi w' b off n c (fun i => if i = j then x else X i) := by
  refine ⟨Nat.lt_of_lt_of_le h.lt hn.size, h.low, h.bc, h.bh, h.mono, h.top, fun i => (hn.frz i).trans (h.frz i), fun i hi' => ?_⟩
  by_cases e : i = j
  · subst e; rw [if_pos rfl]; exact hx
  · rw [if_neg e]
    have h0 := h.le (Nat.zero_le i) (by omega)
    have hbc := h.bc
    refine (h.row i hi').near hn (by omega) ?_ (by omega)
    rcases Nat.lt_or_ge i j with hij | hij
    · exact Or.inl (h.le (by omega) (by omega))
    · exact Or.inr (h.le (by omega) (by omega))
theorem MdRow.touch {lo hi lo' hi' : Nat} {w w' : World} {b off n : Nat} {c : Nat → Nat} {X : Nat → Md} (h : MdRow lo hi w b off n c X) (ht : Touch lo' hi' w w') (ho : hi ≤ lo' ∨ hi' ≤ lo) : MdRow lo hi w' b off n c X := by
  have h1 := h.low
  have h2 := h.bh
  have h3 := h.top
  have h4 := h.bc
  refine ⟨Nat.lt_of_lt_of_le h.lt ht.size, h.low, h.bc, h.bh, h.mono, h.top, fun i => (ht.frozen (p := ⟨b, i, none⟩) h.lt (by simp only []; omega)).trans (h.frz i), fun i hi' => ?_⟩
  have h5 := h.le (Nat.zero_le i) (by omega)
  have h6 := h.le (i := i + 1) (j := n) (by omega) (Nat.le_refl _)
  exact (h.row i hi').touch ht h.lt (by omega) (by omega)
theorem MdRow.below {lo hi : Nat} {w w' : World} {b off n : Nat} {c : Nat → Nat} {X : Nat → Md} (h : MdRow lo hi w b off n c X) (ht : Below w.heap.size w w') : MdRow lo hi w' b off n c X :=
  ⟨Nat.lt_of_lt_of_le h.lt ht.size, h.low, h.bc, h.bh, h.mono, h.top, fun i => (ht.frozen (p := ⟨b, i, none⟩) h.lt).trans (h.frz i), fun i hi' => (h.row i hi').below ht h.lt⟩
theorem MdRow.to {lo hi : Nat} {w : World} {b off n : Nat} {c : Nat → Nat} {X Y : Nat → Md} (h : MdRow lo hi w b off n c X) (e : ∀ i, i < n → X i = Y i) : MdRow lo hi w b off n c Y :=
  ⟨h.lt, h.low, h.bc, h.bh, h.mono, h.top, h.frz, fun i hi' => e i hi' ▸ h.row i hi'⟩
/-- a list of one's own -/
def MdsOwn (lo hi : Nat) (w : World) (v : Value) (Xl : List Md) : Prop :=
  (∃ (a : Option Addr) (cap : Nat), v = .slice a 0 cap ∧ Xl = []) ∨
  ∃ (b off cap : Nat) (c : Nat → Nat) (X : Nat → Md), v = .slice (some ⟨b, off, none⟩) Xl.length cap ∧ Xl ≠ [] ∧ Xl.length ≤ maxLen ∧ Xl.length ≤ cap ∧ (∀ i (h : i < Xl.length), X i = Xl[i]) ∧ MdRow lo hi w b off Xl.length c X
theorem MdsOwn.touch {lo hi lo' hi' : Nat} {w w' : World} {v : Value} {Xl : List Md} (h : MdsOwn lo hi w v Xl) (ht : Touch lo' hi' w w') (ho : hi ≤ lo' ∨ hi' ≤ lo) : MdsOwn lo hi w' v Xl := by
  rcases h with h | ⟨b, off, cap, c, X, h1, h2, h3, h4, h5, h6⟩
  · exact Or.inl h
  · exact Or.inr ⟨b, off, cap, c, X, h1, h2, h3, h4, h5, h6.touch ht ho⟩
theorem MdsOwn.below {lo hi : Nat} {w w' : World} {v : Value} {Xl : List Md} (h : MdsOwn lo hi w v Xl) (ht : Below w.heap.size w w') : MdsOwn lo hi w' v Xl := by
  rcases h with h | ⟨b, off, cap, c, X, h1, h2, h3, h4, h5, h6⟩
  · exact Or.inl h
  · exact Or.inr ⟨b, off, cap, c, X, h1, h2, h3, h4, h5, h6.below ht⟩
theorem MdsOwn.form {lo hi : Nat} {w : World} {v : Value} {Xl : List Md} (h : MdsOwn lo hi w v Xl) : ∃ a cap, v = .slice a Xl.length cap := by
  rcases h with ⟨a, cap, h, rfl⟩ | ⟨b, off, cap, c, X, h1, _⟩
  · exact ⟨a, cap, h⟩
  · exact ⟨_, cap, h1⟩
theorem MdsOwn.at {lo hi : Nat} {w : World} {v : Value} {Xl : List Md} (h : MdsOwn lo hi w v Xl) : MdsAt lo w v Xl := by
  rcases h with h | ⟨b, off, cap, c, X, h1, h2, h3, h4, h5, h6⟩
  · exact Or.inl h
  · refine Or.inr ⟨b, off, cap, h1, h2, h3, h6.lt, h6.low, h4, fun i hi' => ?_⟩
    have hr := h6.row i hi'
    rw [h5 i hi'] at hr
    obtain ⟨hs, hc⟩ := hr
    exact ⟨hs, hc⟩
/-- marks from k on -/
def mkMd (k : Int) (_x : Md) : Md := ⟨mtB (k), mtB (k + 1), mtB (k + 1 + 1), mtB (k + 1 + 1 + 1), mtB (k + 1 + 1 + 1 + 1), mtB (k + 1 + 1 + 1 + 1 + 1)⟩
def wdMd (_x : Md) : Nat := 6
def posMd (Xl : List Md) (i : Nat) : Nat := ((Xl.take i).map wdMd).sum
def mkMds (k : Int) (Xl : List Md) : List Md := Xl.mapIdx (fun i x => mkMd (k + (posMd Xl i : Int)) x)
theorem mkMds_len (k : Int) (Xl : List Md) : (mkMds k Xl).length = Xl.length := by unfold mkMds; simp
theorem mkMds_get (k : Int) (Xl : List Md) (i : Nat) (h : i < (mkMds k Xl).length) (h' : i < Xl.length) : (mkMds k Xl)[i] = mkMd (k + (posMd Xl i : Int)) Xl[i] := List.getElem_mapIdx (f := fun i x => mkMd (k + (posMd Xl i : Int)) x) (h := h)
theorem posMd_succ {Xl : List Md} {i : Nat} (h : i < Xl.length) : posMd Xl (i + 1) = posMd Xl i + wdMd Xl[i] := by
  unfold posMd
  rw [List.take_succ_eq_append_getElem h, List.map_append, List.sum_append]
  simp
theorem posMd_le {Xl : List Md} (hn : MdsSmall Xl) : ∀ {i : Nat}, i ≤ Xl.length → posMd Xl i ≤ i * 3000000 := by
  intro i
  induction i with
  | zero => intro _; simp [posMd]
  | succ i ih =>
    intro hi'
    have h1 := ih (by omega)
    rw [posMd_succ (by omega)]
    have h2 : wdMd Xl[i] ≤ 3000000 := by
      have hsm := hn.2 i (by omega)
      unfold MdSmall at hsm
      unfold wdMd
      omega
    omega
structure MdSt (wr : World) (b o c0 c1 : Nat) (v : World) (y : Md) : Prop where
  near : Near b o 6 c0 c1 wr v
  bc : b < c0
  cells : MdCells v b o y
  frz : ∀ i, v.frozen? ⟨b, i, none⟩ = false
  lt : b < v.heap.size
theorem MdSt.below {wr : World} {b o c0 c1 : Nat} {v v' : World} {y : Md} (h : MdSt wr b o c0 c1 v y) (hb : Below v.heap.size v v') : MdSt wr b o c0 c1 v' y :=
  ⟨h.near.trans (Near.below hb h.lt), h.bc, h.cells.below hb h.lt, fun i => (hb.frozen (p := ⟨b, i, none⟩) h.lt).trans (h.frz i), Nat.lt_of_lt_of_le h.lt hb.size⟩
theorem MdSt.s0 {wr : World} {b o c0 c1 : Nat} {v : World} {y : Md} (h : MdSt wr b o c0 c1 v y) (u : ByteArray) : MdSt wr b o c0 c1 (v.setCell ⟨b, o, none⟩ (.string u)) { y with kind := u } := by
  obtain ⟨h0, h1, h2, h3, h4, h5⟩ := h.cells
  have ht : Touch b (b + 1) v (v.setCell ⟨b, o, none⟩ (.string u)) := Touch.setCell _ _ _ _ _ ⟨Nat.le_refl _, by simp only []; omega⟩
  have hbc := h.bc
  exact ⟨h.near.trans (Near.set _ _ _ _ _ _ _ _ (by omega) (by omega)), h.bc, ⟨World.cell?_setCell_same' _ _ _ (by rw [h0]; rfl), (cne (by omega)).trans h1, (cne (by omega)).trans h2, (cne (by omega)).trans h3, (cne (by omega)).trans h4, (cne (by omega)).trans h5⟩, fun i => by rw [World.frozen?_setCell]; exact h.frz i, by simpa [World.setCell] using h.lt⟩
theorem MdSt.s1 {wr : World} {b o c0 c1 : Nat} {v : World} {y : Md} (h : MdSt wr b o c0 c1 v y) (u : ByteArray) : MdSt wr b o c0 c1 (v.setCell ⟨b, o + 1, none⟩ (.string u)) { y with field := u } := by
  obtain ⟨h0, h1, h2, h3, h4, h5⟩ := h.cells
  have ht : Touch b (b + 1) v (v.setCell ⟨b, o + 1, none⟩ (.string u)) := Touch.setCell _ _ _ _ _ ⟨Nat.le_refl _, by simp only []; omega⟩
  have hbc := h.bc
  exact ⟨h.near.trans (Near.set _ _ _ _ _ _ _ _ (by omega) (by omega)), h.bc, ⟨(cne (by omega)).trans h0, World.cell?_setCell_same' _ _ _ (by rw [h1]; rfl), (cne (by omega)).trans h2, (cne (by omega)).trans h3, (cne (by omega)).trans h4, (cne (by omega)).trans h5⟩, fun i => by rw [World.frozen?_setCell]; exact h.frz i, by simpa [World.setCell] using h.lt⟩
theorem MdSt.s2 {wr : World} {b o c0 c1 : Nat} {v : World} {y : Md} (h : MdSt wr b o c0 c1 v y) (u : ByteArray) : MdSt wr b o c0 c1 (v.setCell ⟨b, o + 2, none⟩ (.string u)) { y with wh := u } := by
  obtain ⟨h0, h1, h2, h3, h4, h5⟩ := h.cells
  have ht : Touch b (b + 1) v (v.setCell ⟨b, o + 2, none⟩ (.string u)) := Touch.setCell _ _ _ _ _ ⟨Nat.le_refl _, by simp only []; omega⟩
  have hbc := h.bc
  exact ⟨h.near.trans (Near.set _ _ _ _ _ _ _ _ (by omega) (by omega)), h.bc, ⟨(cne (by omega)).trans h0, (cne (by omega)).trans h1, World.cell?_setCell_same' _ _ _ (by rw [h2]; rfl), (cne (by omega)).trans h3, (cne (by omega)).trans h4, (cne (by omega)).trans h5⟩, fun i => by rw [World.frozen?_setCell]; exact h.frz i, by simpa [World.setCell] using h.lt⟩
theorem MdSt.s3 {wr : World} {b o c0 c1 : Nat} {v : World} {y : Md} (h : MdSt wr b o c0 c1 v y) (u : ByteArray) : MdSt wr b o c0 c1 (v.setCell ⟨b, o + 3, none⟩ (.string u)) { y with is := u } := by
  obtain ⟨h0, h1, h2, h3, h4, h5⟩ := h.cells
  have ht : Touch b (b + 1) v (v.setCell ⟨b, o + 3, none⟩ (.string u)) := Touch.setCell _ _ _ _ _ ⟨Nat.le_refl _, by simp only []; omega⟩
  have hbc := h.bc
  exact ⟨h.near.trans (Near.set _ _ _ _ _ _ _ _ (by omega) (by omega)), h.bc, ⟨(cne (by omega)).trans h0, (cne (by omega)).trans h1, (cne (by omega)).trans h2, World.cell?_setCell_same' _ _ _ (by rw [h3]; rfl), (cne (by omega)).trans h4, (cne (by omega)).trans h5⟩, fun i => by rw [World.frozen?_setCell]; exact h.frz i, by simpa [World.setCell] using h.lt⟩
theorem MdSt.s4 {wr : World} {b o c0 c1 : Nat} {v : World} {y : Md} (h : MdSt wr b o c0 c1 v y) (u : ByteArray) : MdSt wr b o c0 c1 (v.setCell ⟨b, o + 4, none⟩ (.string u)) { y with put := u } := by
  obtain ⟨h0, h1, h2, h3, h4, h5⟩ := h.cells
  have ht : Touch b (b + 1) v (v.setCell ⟨b, o + 4, none⟩ (.string u)) := Touch.setCell _ _ _ _ _ ⟨Nat.le_refl _, by simp only []; omega⟩
  have hbc := h.bc
  exact ⟨h.near.trans (Near.set _ _ _ _ _ _ _ _ (by omega) (by omega)), h.bc, ⟨(cne (by omega)).trans h0, (cne (by omega)).trans h1, (cne (by omega)).trans h2, (cne (by omega)).trans h3, World.cell?_setCell_same' _ _ _ (by rw [h4]; rfl), (cne (by omega)).trans h5⟩, fun i => by rw [World.frozen?_setCell]; exact h.frz i, by simpa [World.setCell] using h.lt⟩
theorem MdSt.s5 {wr : World} {b o c0 c1 : Nat} {v : World} {y : Md} (h : MdSt wr b o c0 c1 v y) (u : ByteArray) : MdSt wr b o c0 c1 (v.setCell ⟨b, o + 5, none⟩ (.string u)) { y with fr := u } := by
  obtain ⟨h0, h1, h2, h3, h4, h5⟩ := h.cells
  have ht : Touch b (b + 1) v (v.setCell ⟨b, o + 5, none⟩ (.string u)) := Touch.setCell _ _ _ _ _ ⟨Nat.le_refl _, by simp only []; omega⟩
  have hbc := h.bc
  exact ⟨h.near.trans (Near.set _ _ _ _ _ _ _ _ (by omega) (by omega)), h.bc, ⟨(cne (by omega)).trans h0, (cne (by omega)).trans h1, (cne (by omega)).trans h2, (cne (by omega)).trans h3, (cne (by omega)).trans h4, World.cell?_setCell_same' _ _ _ (by rw [h5]; rfl)⟩, fun i => by rw [World.frozen?_setCell]; exact h.frz i, by simpa [World.setCell] using h.lt⟩
end Go.Proofs.Ytmaagbnjpdijnaa

namespace Go.Proofs.Ytmaagbnjpdijnaa
open Go.RowKit Go.Deep

set_option maxRecDepth 20000 in
set_option maxHeartbeats 8000000 in
theorem markMdsO_any (lo hi : Nat) (v : Value) (Xl : List Md) (k : Int) (w : World) (hv : MdsOwn lo hi w v Xl) (hn : MdsSmall Xl) (h0 : 0 ≤ k) (hk : k ≤ 2000000000000000000) :
    Calls Try.prog 39 #[v, .int .i64 k] w fun e w' => e = .returned (.int .i64 (k + (posMd Xl Xl.length : Int))) ∧ Touch lo hi w w' ∧ MdsOwn lo hi w' v (mkMds k Xl) := by
  rcases hv with ⟨a, cap, rfl, rfl⟩ | ⟨b, off, cap, c, X, rfl, hne, hm, hcap, hX, hR⟩
  · go_enter Try.func39, Try.ntmps39
    go_wp2
    go_loop [5, 1] (fun i q => i = .int .i64 0 ∧ q = .int .i64 k) (fun _ _ => 0)
    case atStart => exact ⟨rfl, rfl⟩
    case round =>
      obtain ⟨rfl, rfl⟩ := hrel
      go_wp2
      go_ret
      exact ⟨by simp [posMd], Touch.refl _ _ _, Or.inl ⟨_, _, rfl, rfl⟩⟩
  · have hlen := hn.1
    have HN := hide hn
    have HX := hide hX
    have HR0 := hide hR
    have HM := hide hm
    have HC := hide hcap
    have HNE := hide hne
    clear hn hX hR hm hcap hne
    go_enter Try.func39, Try.ntmps39
    go_wp2
    go_loopw [5, 1] (fun i q wr => ∃ j : Nat, i = .int .i64 j ∧ q = .int .i64 (k + (posMd Xl j : Int)) ∧ j ≤ Xl.length ∧ Touch lo hi w wr ∧ MdRow lo hi wr b off Xl.length c (fun i => if i < j then mkMd (k + (posMd Xl i : Int)) (X i) else X i)) (fun i _ _ => Xl.length - (intOf i).toNat)
    case atStart => exact ⟨0, rfl, by simp [posMd], by omega, Touch.refl _ _ _, HR0.out.to (fun i _ => by simp)⟩
    case round =>
      obtain ⟨j, rfl, rfl, hj, ht, hr⟩ := hrel
      have HT := hide ht
      have HR := hide hr
      clear ht hr HR0
      by_cases hlt : j < Xl.length
      · have hpos := posMd_le HN.out (i := j) (by omega)
        have HP := hide (posMd_succ hlt)
        have hone : MdOne b (off + j * 6) (c j) (c (j + 1)) wr (X j) := by
          have := HR.out.row j hlt
          simp only [Nat.lt_irrefl, if_false] at this
          exact this
        have hxj : X j = Xl[j] := HX.out j hlt
        obtain ⟨x, hx⟩ : ∃ x, x = X j := ⟨_, rfl⟩
        rw [← hx] at hone
        obtain ⟨hs, hc⟩ := hone
        have HXJ := hide hxj
        have HXX := hide hx
        obtain ⟨K, hK⟩ : ∃ K, K = k + (posMd Xl j : Int) := ⟨_, rfl⟩
        rw [← hK]
        have hK0 : 0 ≤ K := by omega
        have hK1 : K ≤ 2500000000000000000 := by omega
        have HK := hide hK
        have HBC : Hid (b < c j) := Nat.lt_of_lt_of_le HR.out.bc (HR.out.le (Nat.zero_le _) (by omega))
        have HS : Hid (MdSt wr b (off + j * 6) (c j) (c (j + 1)) wr x) := ⟨Near.refl _ _ _ _ _ _, HBC.out, hc, HR.out.frz, HR.out.lt⟩
        clear hpos hxj hx hs hc hK
        obtain ⟨d0, d1, d2, d3, d4, d5⟩ := HS.out.cells
        have fz := HS.out.frz
        go_wp2_with fail
        clear d0 d1 d2 d3 d4 d5 fz
        refine (markText_any _ _ (by omega)).mono ?_
        rintro e v1 ⟨rfl, hb⟩
        have HS1 := hide (HS.out.below hb)
        clear hb HS
        obtain ⟨d0, d1, d2, d3, d4, d5⟩ := HS1.out.cells
        have fz := HS1.out.frz
        go_wp2_with fail
        clear d0 d1 d2 d3 d4 d5 fz
        obtain ⟨v2, hv2, HS2⟩ : ∃ v', v' = (v1.setCell ⟨b, off + j * 6, none⟩ (.string (mtB (K)))) ∧ Hid (MdSt wr b (off + j * 6) (c j) (c (j + 1)) v' ⟨mtB (K), x.field, x.wh, x.is, x.put, x.fr⟩) := ⟨_, rfl, (HS1.out.s0 (mtB (K)))⟩
        rw [← hv2]
        clear hv2 HS1
        refine (markText_any _ _ (by omega)).mono ?_
        rintro e v3 ⟨rfl, hb⟩
        have HS3 := hide (HS2.out.below hb)
        clear hb HS2
        obtain ⟨d0, d1, d2, d3, d4, d5⟩ := HS3.out.cells
        have fz := HS3.out.frz
        go_wp2_with fail
        clear d0 d1 d2 d3 d4 d5 fz
        obtain ⟨v4, hv4, HS4⟩ : ∃ v', v' = (v3.setCell ⟨b, off + j * 6 + 1, none⟩ (.string (mtB (K + 1)))) ∧ Hid (MdSt wr b (off + j * 6) (c j) (c (j + 1)) v' ⟨mtB (K), mtB (K + 1), x.wh, x.is, x.put, x.fr⟩) := ⟨_, rfl, (HS3.out.s1 (mtB (K + 1)))⟩
        rw [← hv4]
        clear hv4 HS3
        refine (markText_any _ _ (by omega)).mono ?_
        rintro e v5 ⟨rfl, hb⟩
        have HS5 := hide (HS4.out.below hb)
        clear hb HS4
        obtain ⟨d0, d1, d2, d3, d4, d5⟩ := HS5.out.cells
        have fz := HS5.out.frz
        go_wp2_with fail
        clear d0 d1 d2 d3 d4 d5 fz
        obtain ⟨v6, hv6, HS6⟩ : ∃ v', v' = (v5.setCell ⟨b, off + j * 6 + 2, none⟩ (.string (mtB (K + 1 + 1)))) ∧ Hid (MdSt wr b (off + j * 6) (c j) (c (j + 1)) v' ⟨mtB (K), mtB (K + 1), mtB (K + 1 + 1), x.is, x.put, x.fr⟩) := ⟨_, rfl, (HS5.out.s2 (mtB (K + 1 + 1)))⟩
        rw [← hv6]
        clear hv6 HS5
        refine (markText_any _ _ (by omega)).mono ?_
        rintro e v7 ⟨rfl, hb⟩
        have HS7 := hide (HS6.out.below hb)
        clear hb HS6
        obtain ⟨d0, d1, d2, d3, d4, d5⟩ := HS7.out.cells
        have fz := HS7.out.frz
        go_wp2_with fail
        clear d0 d1 d2 d3 d4 d5 fz
        obtain ⟨v8, hv8, HS8⟩ : ∃ v', v' = (v7.setCell ⟨b, off + j * 6 + 3, none⟩ (.string (mtB (K + 1 + 1 + 1)))) ∧ Hid (MdSt wr b (off + j * 6) (c j) (c (j + 1)) v' ⟨mtB (K), mtB (K + 1), mtB (K + 1 + 1), mtB (K + 1 + 1 + 1), x.put, x.fr⟩) := ⟨_, rfl, (HS7.out.s3 (mtB (K + 1 + 1 + 1)))⟩
        rw [← hv8]
        clear hv8 HS7
        refine (markText_any _ _ (by omega)).mono ?_
        rintro e v9 ⟨rfl, hb⟩
        have HS9 := hide (HS8.out.below hb)
        clear hb HS8
        obtain ⟨d0, d1, d2, d3, d4, d5⟩ := HS9.out.cells
        have fz := HS9.out.frz
        go_wp2_with fail
        clear d0 d1 d2 d3 d4 d5 fz
        obtain ⟨v10, hv10, HS10⟩ : ∃ v', v' = (v9.setCell ⟨b, off + j * 6 + 4, none⟩ (.string (mtB (K + 1 + 1 + 1 + 1)))) ∧ Hid (MdSt wr b (off + j * 6) (c j) (c (j + 1)) v' ⟨mtB (K), mtB (K + 1), mtB (K + 1 + 1), mtB (K + 1 + 1 + 1), mtB (K + 1 + 1 + 1 + 1), x.fr⟩) := ⟨_, rfl, (HS9.out.s4 (mtB (K + 1 + 1 + 1 + 1)))⟩
        rw [← hv10]
        clear hv10 HS9
        refine (markText_any _ _ (by omega)).mono ?_
        rintro e v11 ⟨rfl, hb⟩
        have HS11 := hide (HS10.out.below hb)
        clear hb HS10
        obtain ⟨d0, d1, d2, d3, d4, d5⟩ := HS11.out.cells
        have fz := HS11.out.frz
        go_wp2
        clear d0 d1 d2 d3 d4 d5 fz
        obtain ⟨v12, hv12, HS12⟩ : ∃ v', v' = (v11.setCell ⟨b, off + j * 6 + 5, none⟩ (.string (mtB (K + 1 + 1 + 1 + 1 + 1)))) ∧ Hid (MdSt wr b (off + j * 6) (c j) (c (j + 1)) v' ⟨mtB (K), mtB (K + 1), mtB (K + 1 + 1), mtB (K + 1 + 1 + 1), mtB (K + 1 + 1 + 1 + 1), mtB (K + 1 + 1 + 1 + 1 + 1)⟩) := ⟨_, rfl, (HS11.out.s5 (mtB (K + 1 + 1 + 1 + 1 + 1)))⟩
        rw [← hv12]
        clear hv12 HS11
        have HW : Hid (wdMd Xl[j] = 6) := by unfold Hid; rw [← HXJ.out, ← HXX.out]; rfl
        have HQ : Hid ((K + 1 + 1 + 1 + 1 + 1 + 1 : Int) = k + (posMd Xl (j + 1) : Int)) := by
          have h1 := HP.out
          have h2 := HW.out
          have h3 := HK.out
          unfold Hid
          omega
        have HRN := hide (HR.out.near hlt HS12.out.near (show MdOne b (off + j * 6) (c j) (c (j + 1)) v12 (mkMd K x) from ⟨⟨mt_size _ (by omega), mt_size _ (by omega), mt_size _ (by omega), mt_size _ (by omega), mt_size _ (by omega), mt_size _ (by omega)⟩, HS12.out.cells⟩))
        have HTN := hide (HS12.out.near.wide HR.out.lt (lo' := lo) (hi' := hi) (by have := HBC.out; have := HR.out.low; omega) (Nat.le_trans (HR.out.le (by omega) (Nat.le_refl _)) HR.out.top) ⟨HR.out.low, HR.out.bh⟩)
        go_roundw
        case rel =>
          refine ⟨j + 1, by go_num, congrArg (Value.int .i64) HQ.out, by omega, HT.out.trans HTN.out, HRN.out.to (fun i hi' => ?_)⟩
          by_cases e : i = j
          · subst e
            rw [if_pos rfl, if_pos (by omega), ← HK.out, HXX.out]
          · rw [if_neg e]
            by_cases e2 : i < j
            · rw [if_pos e2, if_pos (by omega)]
            · rw [if_neg e2, if_neg (by omega)]
        case measure => simp [intOf]; omega
      · have e : j = Xl.length := by omega
        subst e
        go_wp2
        go_ret
        refine ⟨rfl, HT.out, Or.inr ⟨b, off, cap, c, fun i => mkMd (k + (posMd Xl i : Int)) (X i), by rw [mkMds_len], ?_, by rw [mkMds_len]; exact HM.out, by rw [mkMds_len]; exact HC.out, fun i h => ?_, ?_⟩⟩
        · intro e
          have := congrArg List.length e
          rw [mkMds_len] at this
          exact HNE.out (List.length_eq_zero_iff.1 (by simpa using this))
        · have h' : i < Xl.length := by rw [mkMds_len] at h; exact h
          rw [mkMds_get _ _ _ _ h', ← HX.out i h']
        · rw [mkMds_len]
          exact HR.out.to (fun i hi' => by rw [if_pos hi'])
end Go.Proofs.Ytmaagbnjpdijnaa

namespace Go.Proofs.Ytmaagbnjpdijnaa
open Go.RowKit Go.Deep

set_option maxRecDepth 20000 in
set_option maxHeartbeats 8000000 in
theorem heldMds_any (lo hi : Nat) (v : Value) (Xl : List Md) (k : Int) (w : World) (hv : MdsOwn lo hi w v (mkMds k Xl)) (hn : MdsSmall Xl) (h0 : 0 ≤ k) (hk : k ≤ 2000000000000000000) :
    Calls Try.prog 41 #[v, .int .i64 k] w fun e w' => e = .returned (.int .i64 (k + (posMd Xl Xl.length : Int))) ∧ Below w.heap.size w w' := by
  have HA := hide hv.at
  have HN := hide hn
  have hlen := hn.1
  obtain ⟨a, cap, hv'⟩ := hv.form
  rw [mkMds_len] at hv'
  subst hv'
  clear hv hn
  go_enter Try.func41, Try.ntmps41
  go_wp2
  go_loopw [5, 1] (fun i q wr => ∃ j : Nat, i = .int .i64 j ∧ q = .int .i64 (k + (posMd Xl j : Int)) ∧ j ≤ Xl.length ∧ Below w.heap.size w wr) (fun i _ _ => Xl.length - (intOf i).toNat)
  case atStart => exact ⟨0, rfl, by simp [posMd], by omega, Below.refl _ _⟩
  case round =>
    obtain ⟨j, rfl, rfl, hj, hb⟩ := hrel
    have HB0 := hide hb
    clear hb
    by_cases hlt : j < Xl.length
    · obtain ⟨b, off, rfl, hbw, hc⟩ := HA.out.full' (by rw [mkMds_len]; omega)
      have hcj := hc j (by rw [mkMds_len]; omega)
      rw [mkMds_get _ _ _ _ hlt] at hcj
      have hpos := posMd_le HN.out (i := j) (by omega)
      have HP := hide (posMd_succ hlt)
      obtain ⟨x, hx⟩ : ∃ x, x = Xl[j] := ⟨_, rfl⟩
      rw [← hx] at hcj
      have HXX := hide hx
      obtain ⟨K, hK⟩ : ∃ K, K = k + (posMd Xl j : Int) := ⟨_, rfl⟩
      rw [← hK] at hcj
      rw [← hK]
      have hK0 : 0 ≤ K := by omega
      have hK1 : K ≤ 2500000000000000000 := by omega
      have HK := hide hK
      obtain ⟨_, hcl⟩ := hcj
      have HC := hide hcl
      clear hc hcl hx hK hpos
      have d0 : wr.cell? ⟨b, off + j * 6, none⟩ = some (.string (mtB (K))) := (HC.out.below HB0.out hbw).c0
      have d1 : wr.cell? ⟨b, off + j * 6 + 1, none⟩ = some (.string (mtB (K + 1))) := (HC.out.below HB0.out hbw).c1
      have d2 : wr.cell? ⟨b, off + j * 6 + 2, none⟩ = some (.string (mtB (K + 1 + 1))) := (HC.out.below HB0.out hbw).c2
      have d3 : wr.cell? ⟨b, off + j * 6 + 3, none⟩ = some (.string (mtB (K + 1 + 1 + 1))) := (HC.out.below HB0.out hbw).c3
      have d4 : wr.cell? ⟨b, off + j * 6 + 4, none⟩ = some (.string (mtB (K + 1 + 1 + 1 + 1))) := (HC.out.below HB0.out hbw).c4
      have d5 : wr.cell? ⟨b, off + j * 6 + 5, none⟩ = some (.string (mtB (K + 1 + 1 + 1 + 1 + 1))) := (HC.out.below HB0.out hbw).c5
      have x0 : ∀ X : In (Upo wr), X.w.cell? ⟨b, off + j * 6, none⟩ = some (.string (mtB (K))) := fun X => Upo.cell X d0
      have xn : Nonempty (In (Upo wr)) := ⟨⟨wr, Below.refl _ _⟩⟩
      have xs := fun (X : In (Upo wr)) => in_self X
      go_wp2
      clear d0 d1 d2 d3 d4 d5
      refine wp_region_class (Upo wr) (by kernel_rfl) (by kernel_rfl) ((Below.refl _ _).drew) ?_
      repeat (go_big_quiet_step (first | (go_at_call 70; rename_i X; exact (markText_any _ _ (by omega)).mono fun _ _ h => ⟨h.1, Upo.next X h.2⟩)))
      refine wpQuiet_nil ?_
      intro w1 hw
      obtain ⟨Y, hY⟩ := hw
      have HB1 : Hid (Below w.heap.size w w1) := HB0.out.trans (Below.mono (show Below wr.heap.size wr w1 by rw [hY]; exact Y.h) HB0.out.size)
      clear hY Y x0 xs xn HB0
      have d0 : w1.cell? ⟨b, off + j * 6, none⟩ = some (.string (mtB (K))) := (HC.out.below HB1.out hbw).c0
      have d1 : w1.cell? ⟨b, off + j * 6 + 1, none⟩ = some (.string (mtB (K + 1))) := (HC.out.below HB1.out hbw).c1
      have d2 : w1.cell? ⟨b, off + j * 6 + 2, none⟩ = some (.string (mtB (K + 1 + 1))) := (HC.out.below HB1.out hbw).c2
      have d3 : w1.cell? ⟨b, off + j * 6 + 3, none⟩ = some (.string (mtB (K + 1 + 1 + 1))) := (HC.out.below HB1.out hbw).c3
      have d4 : w1.cell? ⟨b, off + j * 6 + 4, none⟩ = some (.string (mtB (K + 1 + 1 + 1 + 1))) := (HC.out.below HB1.out hbw).c4
      have d5 : w1.cell? ⟨b, off + j * 6 + 5, none⟩ = some (.string (mtB (K + 1 + 1 + 1 + 1 + 1))) := (HC.out.below HB1.out hbw).c5
      have x0 : ∀ X : In (Upo w1), X.w.cell? ⟨b, off + j * 6 + 1, none⟩ = some (.string (mtB (K + 1))) := fun X => Upo.cell X d1
      have xn : Nonempty (In (Upo w1)) := ⟨⟨w1, Below.refl _ _⟩⟩
      have xs := fun (X : In (Upo w1)) => in_self X
      go_wp2
      clear d0 d1 d2 d3 d4 d5
      refine wp_region_class (Upo w1) (by kernel_rfl) (by kernel_rfl) ((Below.refl _ _).drew) ?_
      repeat (go_big_quiet_step (first | (go_at_call 70; rename_i X; exact (markText_any _ _ (by omega)).mono fun _ _ h => ⟨h.1, Upo.next X h.2⟩)))
      refine wpQuiet_nil ?_
      intro w2 hw
      obtain ⟨Y, hY⟩ := hw
      have HB2 : Hid (Below w.heap.size w w2) := HB1.out.trans (Below.mono (show Below w1.heap.size w1 w2 by rw [hY]; exact Y.h) HB1.out.size)
      clear hY Y x0 xs xn HB1
      have d0 : w2.cell? ⟨b, off + j * 6, none⟩ = some (.string (mtB (K))) := (HC.out.below HB2.out hbw).c0
      have d1 : w2.cell? ⟨b, off + j * 6 + 1, none⟩ = some (.string (mtB (K + 1))) := (HC.out.below HB2.out hbw).c1
      have d2 : w2.cell? ⟨b, off + j * 6 + 2, none⟩ = some (.string (mtB (K + 1 + 1))) := (HC.out.below HB2.out hbw).c2
      have d3 : w2.cell? ⟨b, off + j * 6 + 3, none⟩ = some (.string (mtB (K + 1 + 1 + 1))) := (HC.out.below HB2.out hbw).c3
      have d4 : w2.cell? ⟨b, off + j * 6 + 4, none⟩ = some (.string (mtB (K + 1 + 1 + 1 + 1))) := (HC.out.below HB2.out hbw).c4
      have d5 : w2.cell? ⟨b, off + j * 6 + 5, none⟩ = some (.string (mtB (K + 1 + 1 + 1 + 1 + 1))) := (HC.out.below HB2.out hbw).c5
      have x0 : ∀ X : In (Upo w2), X.w.cell? ⟨b, off + j * 6 + 2, none⟩ = some (.string (mtB (K + 1 + 1))) := fun X => Upo.cell X d2
      have xn : Nonempty (In (Upo w2)) := ⟨⟨w2, Below.refl _ _⟩⟩
      have xs := fun (X : In (Upo w2)) => in_self X
      go_wp2
      clear d0 d1 d2 d3 d4 d5
      refine wp_region_class (Upo w2) (by kernel_rfl) (by kernel_rfl) ((Below.refl _ _).drew) ?_
      repeat (go_big_quiet_step (first | (go_at_call 70; rename_i X; exact (markText_any _ _ (by omega)).mono fun _ _ h => ⟨h.1, Upo.next X h.2⟩)))
      refine wpQuiet_nil ?_
      intro w3 hw
      obtain ⟨Y, hY⟩ := hw
      have HB3 : Hid (Below w.heap.size w w3) := HB2.out.trans (Below.mono (show Below w2.heap.size w2 w3 by rw [hY]; exact Y.h) HB2.out.size)
      clear hY Y x0 xs xn HB2
      have d0 : w3.cell? ⟨b, off + j * 6, none⟩ = some (.string (mtB (K))) := (HC.out.below HB3.out hbw).c0
      have d1 : w3.cell? ⟨b, off + j * 6 + 1, none⟩ = some (.string (mtB (K + 1))) := (HC.out.below HB3.out hbw).c1
      have d2 : w3.cell? ⟨b, off + j * 6 + 2, none⟩ = some (.string (mtB (K + 1 + 1))) := (HC.out.below HB3.out hbw).c2
      have d3 : w3.cell? ⟨b, off + j * 6 + 3, none⟩ = some (.string (mtB (K + 1 + 1 + 1))) := (HC.out.below HB3.out hbw).c3
      have d4 : w3.cell? ⟨b, off + j * 6 + 4, none⟩ = some (.string (mtB (K + 1 + 1 + 1 + 1))) := (HC.out.below HB3.out hbw).c4
      have d5 : w3.cell? ⟨b, off + j * 6 + 5, none⟩ = some (.string (mtB (K + 1 + 1 + 1 + 1 + 1))) := (HC.out.below HB3.out hbw).c5
      have x0 : ∀ X : In (Upo w3), X.w.cell? ⟨b, off + j * 6 + 3, none⟩ = some (.string (mtB (K + 1 + 1 + 1))) := fun X => Upo.cell X d3
      have xn : Nonempty (In (Upo w3)) := ⟨⟨w3, Below.refl _ _⟩⟩
      have xs := fun (X : In (Upo w3)) => in_self X
      go_wp2
      clear d0 d1 d2 d3 d4 d5
      refine wp_region_class (Upo w3) (by kernel_rfl) (by kernel_rfl) ((Below.refl _ _).drew) ?_
      repeat (go_big_quiet_step (first | (go_at_call 70; rename_i X; exact (markText_any _ _ (by omega)).mono fun _ _ h => ⟨h.1, Upo.next X h.2⟩)))
      refine wpQuiet_nil ?_
      intro w4 hw
      obtain ⟨Y, hY⟩ := hw
      have HB4 : Hid (Below w.heap.size w w4) := HB3.out.trans (Below.mono (show Below w3.heap.size w3 w4 by rw [hY]; exact Y.h) HB3.out.size)
      clear hY Y x0 xs xn HB3
      have d0 : w4.cell? ⟨b, off + j * 6, none⟩ = some (.string (mtB (K))) := (HC.out.below HB4.out hbw).c0
      have d1 : w4.cell? ⟨b, off + j * 6 + 1, none⟩ = some (.string (mtB (K + 1))) := (HC.out.below HB4.out hbw).c1
      have d2 : w4.cell? ⟨b, off + j * 6 + 2, none⟩ = some (.string (mtB (K + 1 + 1))) := (HC.out.below HB4.out hbw).c2
      have d3 : w4.cell? ⟨b, off + j * 6 + 3, none⟩ = some (.string (mtB (K + 1 + 1 + 1))) := (HC.out.below HB4.out hbw).c3
      have d4 : w4.cell? ⟨b, off + j * 6 + 4, none⟩ = some (.string (mtB (K + 1 + 1 + 1 + 1))) := (HC.out.below HB4.out hbw).c4
      have d5 : w4.cell? ⟨b, off + j * 6 + 5, none⟩ = some (.string (mtB (K + 1 + 1 + 1 + 1 + 1))) := (HC.out.below HB4.out hbw).c5
      have x0 : ∀ X : In (Upo w4), X.w.cell? ⟨b, off + j * 6 + 4, none⟩ = some (.string (mtB (K + 1 + 1 + 1 + 1))) := fun X => Upo.cell X d4
      have xn : Nonempty (In (Upo w4)) := ⟨⟨w4, Below.refl _ _⟩⟩
      have xs := fun (X : In (Upo w4)) => in_self X
      go_wp2
      clear d0 d1 d2 d3 d4 d5
      refine wp_region_class (Upo w4) (by kernel_rfl) (by kernel_rfl) ((Below.refl _ _).drew) ?_
      repeat (go_big_quiet_step (first | (go_at_call 70; rename_i X; exact (markText_any _ _ (by omega)).mono fun _ _ h => ⟨h.1, Upo.next X h.2⟩)))
      refine wpQuiet_nil ?_
      intro w5 hw
      obtain ⟨Y, hY⟩ := hw
      have HB5 : Hid (Below w.heap.size w w5) := HB4.out.trans (Below.mono (show Below w4.heap.size w4 w5 by rw [hY]; exact Y.h) HB4.out.size)
      clear hY Y x0 xs xn HB4
      have d0 : w5.cell? ⟨b, off + j * 6, none⟩ = some (.string (mtB (K))) := (HC.out.below HB5.out hbw).c0
      have d1 : w5.cell? ⟨b, off + j * 6 + 1, none⟩ = some (.string (mtB (K + 1))) := (HC.out.below HB5.out hbw).c1
      have d2 : w5.cell? ⟨b, off + j * 6 + 2, none⟩ = some (.string (mtB (K + 1 + 1))) := (HC.out.below HB5.out hbw).c2
      have d3 : w5.cell? ⟨b, off + j * 6 + 3, none⟩ = some (.string (mtB (K + 1 + 1 + 1))) := (HC.out.below HB5.out hbw).c3
      have d4 : w5.cell? ⟨b, off + j * 6 + 4, none⟩ = some (.string (mtB (K + 1 + 1 + 1 + 1))) := (HC.out.below HB5.out hbw).c4
      have d5 : w5.cell? ⟨b, off + j * 6 + 5, none⟩ = some (.string (mtB (K + 1 + 1 + 1 + 1 + 1))) := (HC.out.below HB5.out hbw).c5
      have x0 : ∀ X : In (Upo w5), X.w.cell? ⟨b, off + j * 6 + 5, none⟩ = some (.string (mtB (K + 1 + 1 + 1 + 1 + 1))) := fun X => Upo.cell X d5
      have xn : Nonempty (In (Upo w5)) := ⟨⟨w5, Below.refl _ _⟩⟩
      have xs := fun (X : In (Upo w5)) => in_self X
      go_wp2
      clear d0 d1 d2 d3 d4 d5
      refine wp_region_class (Upo w5) (by kernel_rfl) (by kernel_rfl) ((Below.refl _ _).drew) ?_
      repeat (go_big_quiet_step (first | (go_at_call 70; rename_i X; exact (markText_any _ _ (by omega)).mono fun _ _ h => ⟨h.1, Upo.next X h.2⟩)))
      refine wpQuiet_nil ?_
      intro w6 hw
      obtain ⟨Y, hY⟩ := hw
      have HB6 : Hid (Below w.heap.size w w6) := HB5.out.trans (Below.mono (show Below w5.heap.size w5 w6 by rw [hY]; exact Y.h) HB5.out.size)
      clear hY Y x0 xs xn HB5
      have d0 : w6.cell? ⟨b, off + j * 6, none⟩ = some (.string (mtB (K))) := (HC.out.below HB6.out hbw).c0
      have d1 : w6.cell? ⟨b, off + j * 6 + 1, none⟩ = some (.string (mtB (K + 1))) := (HC.out.below HB6.out hbw).c1
      have d2 : w6.cell? ⟨b, off + j * 6 + 2, none⟩ = some (.string (mtB (K + 1 + 1))) := (HC.out.below HB6.out hbw).c2
      have d3 : w6.cell? ⟨b, off + j * 6 + 3, none⟩ = some (.string (mtB (K + 1 + 1 + 1))) := (HC.out.below HB6.out hbw).c3
      have d4 : w6.cell? ⟨b, off + j * 6 + 4, none⟩ = some (.string (mtB (K + 1 + 1 + 1 + 1))) := (HC.out.below HB6.out hbw).c4
      have d5 : w6.cell? ⟨b, off + j * 6 + 5, none⟩ = some (.string (mtB (K + 1 + 1 + 1 + 1 + 1))) := (HC.out.below HB6.out hbw).c5
      go_wp2
      clear d0 d1 d2 d3 d4 d5
      have HW : Hid (wdMd Xl[j] = 6) := by unfold Hid; rw [← HXX.out]; rfl
      have HQ : Hid ((K + 1 + 1 + 1 + 1 + 1 + 1 : Int) = k + (posMd Xl (j + 1) : Int)) := by
        have h1 := HP.out
        have h2 := HW.out
        have h3 := HK.out
        unfold Hid
        omega
      go_roundw
      case rel => exact ⟨j + 1, by go_num, congrArg (Value.int .i64) HQ.out, by omega, HB6.out⟩
      case measure => simp [intOf]; omega
    · have e : j = Xl.length := by omega
      subst e
      go_wp2
      go_ret
      exact ⟨rfl, HB0.out⟩
end Go.Proofs.Ytmaagbnjpdijnaa

