import Derived.Test.YtmaagbnjpdijnaaYTA
import Derived.Test.YtmaagbnjpdijnaaYM2
import Derived.Test.YtmaagbnjpdijnaaYTD
import Derived.Test.YtmaagbnjpdijnaaYBOG
import Derived.Test.YtmaagbnjpdijnaaYA1
import Derived.Test.YtmaagbnjpdijnaaYM1
namespace Go.Proofs.Ytmaagbnjpdijnaa
open Go.RowKit Go.Deep

/-- the worlds in which memory has only been added to -/
abbrev Upo (W0 : World) : World → Prop := fun W => Below W0.heap.size W0 W
theorem Upo.cell {W0 : World} (X : In (Upo W0)) {p : Addr} {v : Value} (h : W0.cell? p = some v) : X.w.cell? p = some v :=
  (Below.cell (show Below W0.heap.size W0 X.w from X.h) (World.block_lt_of_cell? W0 _ h)).trans h
theorem Upo.next {W0 : World} (X : In (Upo W0)) {W' : World} (h : Below X.w.heap.size X.w W') : ∃ Y : In (Upo W0), W' = Y.w :=
  ⟨⟨W', X.h.trans (h.mono X.h.size)⟩, rfl⟩
/-! books of one's own: only some cells of a block, and the blocks of an interval, may have turned -/
structure Near (b o n lo hi : Nat) (w w' : World) : Prop where
  os : w'.os = w.os
  tape : w'.tape = w.tape
  output : w'.output = w.output
  size : w.heap.size ≤ w'.heap.size
  block : ∀ k, k < w.heap.size → k ≠ b → (k < lo ∨ hi ≤ k) → w'.heap[k]? = w.heap[k]?
  cell : ∀ i, (i < o ∨ o + n ≤ i) → w'.cell? ⟨b, i, none⟩ = w.cell? ⟨b, i, none⟩
  frz : ∀ i, w'.frozen? ⟨b, i, none⟩ = w.frozen? ⟨b, i, none⟩
theorem Near.refl (b o n lo hi : Nat) (w : World) : Near b o n lo hi w w := ⟨rfl, rfl, rfl, Nat.le_refl _, fun _ _ _ _ => rfl, fun _ _ => rfl, fun _ => rfl⟩
theorem Near.trans {b o n lo hi : Nat} {u v w : World} (h : Near b o n lo hi u v) (k : Near b o n lo hi v w) : Near b o n lo hi u w :=
  ⟨k.os.trans h.os, k.tape.trans h.tape, k.output.trans h.output, Nat.le_trans h.size k.size, fun i hi' hb ho => (k.block i (Nat.lt_of_lt_of_le hi' h.size) hb ho).trans (h.block i hi' hb ho), fun i hi' => (k.cell i hi').trans (h.cell i hi'), fun i => (k.frz i).trans (h.frz i)⟩
theorem Near.below {b o n lo hi : Nat} {w w' : World} (h : Below w.heap.size w w') (hb : b < w.heap.size) : Near b o n lo hi w w' :=
  ⟨h.os, h.tape, h.output, h.size, fun k hk _ _ => h.block k hk, fun i _ => h.cell (p := ⟨b, i, none⟩) hb, fun i => h.frozen (p := ⟨b, i, none⟩) hb⟩
theorem Near.touch {b o n lo hi lo' hi' : Nat} {w w' : World} (h : Touch lo' hi' w w') (hb : b < w.heap.size) (h1 : lo ≤ lo') (h2 : hi' ≤ hi) (hx : b < lo' ∨ hi' ≤ b) : Near b o n lo hi w w' :=
  ⟨h.os, h.tape, h.output, h.size, fun k hk _ ho => h.block k hk (by omega), fun i _ => h.cell (p := ⟨b, i, none⟩) hb hx, fun i => h.frozen (p := ⟨b, i, none⟩) hb hx⟩
theorem Near.set (b o n lo hi : Nat) (w : World) (i : Nat) (u : Value) (h1 : o ≤ i) (h2 : i < o + n) : Near b o n lo hi w (w.setCell ⟨b, i, none⟩ u) :=
  ⟨rfl, rfl, rfl, by simp [World.setCell], fun k _ hb _ => Below.heap_setCell _ _ _ _ hb, fun j hj => by apply World.cell?_setCell_other; simp only [ne_eq, Addr.mk.injEq, not_and]; omega, fun j => by rw [World.frozen?_setCell]⟩
theorem Near.wide {b o n lo hi lo' hi' : Nat} {w w' : World} (h : Near b o n lo hi w w') (_hb : b < w.heap.size) (h1 : lo' ≤ lo) (h2 : hi ≤ hi') (hx : lo' ≤ b ∧ b < hi') : Touch lo' hi' w w' :=
  ⟨h.os, h.tape, h.output, h.size, fun k hk ho => h.block k hk (by omega) (by omega)⟩
theorem Near.out {b o n lo hi : Nat} {w w' : World} (h : Near b o n lo hi w w') {p : Addr} (hp : p.block < w.heap.size) (hb : p.block ≠ b) (ho : p.block < lo ∨ hi ≤ p.block) : w'.cell? p = w.cell? p ∧ w'.frozen? p = w.frozen? p :=
  ⟨World.cell?_of_block (w := w) (h.block p.block hp hb ho), World.frozen?_of_block (w := w) (h.block p.block hp hb ho)⟩
theorem StrsOwn.near {lo hi lo' hi' b o n : Nat} {w w' : World} {v : Value} {L : List ByteArray} (h : StrsOwn lo hi w v L) (ht : Near b o n lo' hi' w w') (ho : hi ≤ lo' ∨ hi' ≤ lo) (hb : b < lo ∨ hi ≤ b) : StrsOwn lo hi w' v L := by
  rcases h with h | ⟨g, off, cap, h1, h2, h3, h4, h5, h6, h7, h8, h9⟩
  · exact Or.inl h
  · exact Or.inr ⟨g, off, cap, h1, h2, h3, Nat.lt_of_lt_of_le h4 ht.size, fun i hi' => ((ht.out (p := ⟨g, off + i, none⟩) h4 (by simp only [ne_eq]; omega) (by simp only []; omega)).1).trans (h5 i hi'), h6, h7, h8, fun i => ((ht.out (p := ⟨g, off + i, none⟩) h4 (by simp only [ne_eq]; omega) (by simp only []; omega)).2).trans (h9 i)⟩
theorem StrsOwn.in' {lo hi : Nat} {w : World} {v : Value} {L : List ByteArray} (h : StrsOwn lo hi w v L) : StrsIn lo w v L := by
  rcases h with h | ⟨g, off, cap, h1, h2, h3, h4, h5, h6, h7, h8, h9⟩
  · exact Or.inl h
  · exact Or.inr ⟨g, off, cap, h1, h2, h3, h4, h5, h6, h7⟩
theorem cne {v : World} {b i j : Nat} {u : Value} (h : i ≠ j) : (v.setCell ⟨b, i, none⟩ u).cell? ⟨b, j, none⟩ = v.cell? ⟨b, j, none⟩ := by
  apply World.cell?_setCell_other
  simp only [ne_eq, Addr.mk.injEq, not_and]
  omega
theorem Touch.setB (B : Nat) (w : World) (i : Nat) (u : Value) : Touch B (B + 1) w (w.setCell ⟨B, i, none⟩ u) := Touch.setCell _ _ _ _ _ ⟨Nat.le_refl _, Nat.lt_succ_self _⟩
/-- ints of one's own -/
def IntsOwn (lo hi : Nat) (w : World) (v : Value) (L : List Int) : Prop :=
  (∃ (a : Option Addr) (cap : Nat), v = .slice a 0 cap ∧ L = []) ∨
  ∃ (b off cap : Nat), v = .slice (some ⟨b, off, none⟩) L.length cap ∧ L ≠ [] ∧ L.length ≤ maxLen ∧ b < w.heap.size ∧
    (∀ i (h : i < L.length), w.cell? ⟨b, off + i, none⟩ = some (.int .i64 L[i])) ∧ lo ≤ b ∧ b < hi ∧ ∀ i, w.frozen? ⟨b, off + i, none⟩ = false
theorem IntsOwn.near {lo hi lo' hi' b o n : Nat} {w w' : World} {v : Value} {L : List Int} (h : IntsOwn lo hi w v L) (ht : Near b o n lo' hi' w w') (ho : hi ≤ lo' ∨ hi' ≤ lo) (hb : b < lo ∨ hi ≤ b) : IntsOwn lo hi w' v L := by
  rcases h with h | ⟨g, off, cap, h1, h2, h3, h4, h5, h7, h8, h9⟩
  · exact Or.inl h
  · exact Or.inr ⟨g, off, cap, h1, h2, h3, Nat.lt_of_lt_of_le h4 ht.size, fun i hi' => ((ht.out (p := ⟨g, off + i, none⟩) h4 (by simp only [ne_eq]; omega) (by simp only []; omega)).1).trans (h5 i hi'), h7, h8, fun i => ((ht.out (p := ⟨g, off + i, none⟩) h4 (by simp only [ne_eq]; omega) (by simp only []; omega)).2).trans (h9 i)⟩
theorem IntsOwn.below {lo hi : Nat} {w w' : World} {v : Value} {L : List Int} (h : IntsOwn lo hi w v L) (hb : Below w.heap.size w w') : IntsOwn lo hi w' v L := by
  rcases h with h | ⟨g, off, cap, h1, h2, h3, h4, h5, h7, h8, h9⟩
  · exact Or.inl h
  · exact Or.inr ⟨g, off, cap, h1, h2, h3, Nat.lt_of_lt_of_le h4 hb.size, fun i hi' => (hb.cell (p := ⟨g, off + i, none⟩) h4).trans (h5 i hi'), h7, h8, fun i => (hb.frozen (p := ⟨g, off + i, none⟩) h4).trans (h9 i)⟩
theorem IntsOwn.touch {lo hi lo' hi' : Nat} {w w' : World} {v : Value} {L : List Int} (h : IntsOwn lo hi w v L) (ht : Touch lo' hi' w w') (ho : hi ≤ lo' ∨ hi' ≤ lo) : IntsOwn lo hi w' v L := by
  rcases h with h | ⟨b, off, cap, h1, h2, h3, h4, h5, h7, h8, h9⟩
  · exact Or.inl h
  · exact Or.inr ⟨b, off, cap, h1, h2, h3, Nat.lt_of_lt_of_le h4 ht.size, fun i hi' => (ht.cell (p := ⟨b, off + i, none⟩) h4 (by simp only []; omega)).trans (h5 i hi'), h7, h8, fun i => (ht.frozen (p := ⟨b, off + i, none⟩) h4 (by simp only []; omega)).trans (h9 i)⟩
theorem IntsOwn.in' {lo hi : Nat} {w : World} {v : Value} {L : List Int} (h : IntsOwn lo hi w v L) : IntsIn lo w v L := by
  rcases h with h | ⟨g, off, cap, h1, h2, h3, h4, h5, h7, h8, h9⟩
  · exact Or.inl h
  · exact Or.inr ⟨g, off, cap, h1, h2, h3, h4, h7, h5⟩
theorem IntsOwn.wide {lo hi lo' hi' : Nat} {w : World} {v : Value} {L : List Int} (h : IntsOwn lo hi w v L) (h1 : lo' ≤ lo) (h2 : hi ≤ hi') : IntsOwn lo' hi' w v L := by
  rcases h with h | ⟨g, off, cap, e1, e2, e3, e4, e5, e7, e8, e9⟩
  · exact Or.inl h
  · exact Or.inr ⟨g, off, cap, e1, e2, e3, e4, e5, by omega, by omega, e9⟩
theorem IntsOwn.form {lo hi : Nat} {w : World} {v : Value} {L : List Int} (h : IntsOwn lo hi w v L) : ∃ a cap, v = .slice a L.length cap := by
  rcases h with ⟨a, cap, h, rfl⟩ | ⟨b, off, cap, h, _⟩
  · exact ⟨a, cap, h⟩
  · exact ⟨_, cap, h⟩
def imarks (k : Int) (n : Nat) : List Int := (List.range n).map fun (i : Nat) => k + (i : Int)
theorem imarks_len (k : Int) (n : Nat) : (imarks k n).length = n := by simp [imarks]
theorem imarks_get (k : Int) (n i : Nat) (h : i < (imarks k n).length) : (imarks k n)[i] = k + i := by simp [imarks]

set_option maxHeartbeats 1000000 in
theorem markInts_any (lo hi : Nat) (v : Value) (L : List Int) (k : Int) (w : World) (hv : IntsOwn lo hi w v L) (h0 : 0 ≤ k) (hk : k + L.length ≤ 4000000000000000000) :
    Calls Try.prog 71 #[v, .int .i64 k] w fun e w' => e = .returned (.int .i64 (k + L.length)) ∧ Touch lo hi w w' ∧ IntsOwn lo hi w' v (imarks k L.length) := by
  rcases hv with ⟨a, cap, rfl, rfl⟩ | ⟨b, off, cap, rfl, hne, hm, hbw, hc, hlo, hhi, hfr⟩
  · go_enter Try.func71, Try.ntmps71
    go_wp2
    go_loop [5, 1] (fun i q => i = .int .i64 0 ∧ q = .int .i64 k) (fun _ _ => 0)
    case atStart => exact ⟨rfl, rfl⟩
    case round =>
      obtain ⟨rfl, rfl⟩ := hrel
      go_wp2
      go_ret
      exact ⟨by simp, Touch.refl _ _ _, Or.inl ⟨_, _, rfl, rfl⟩⟩
  · unfold maxLen at hm
    go_enter Try.func71, Try.ntmps71
    go_wp2
    go_loopw [5, 1] (fun i q wr => ∃ j : Nat, i = .int .i64 j ∧ q = .int .i64 (k + j) ∧ j ≤ L.length ∧ Touch lo hi w wr ∧ (∀ i, i < j → wr.cell? ⟨b, off + i, none⟩ = some (.int .i64 (k + i))) ∧ (∀ i (h : i < L.length), j ≤ i → wr.cell? ⟨b, off + i, none⟩ = some (.int .i64 L[i])) ∧ ∀ i, wr.frozen? ⟨b, off + i, none⟩ = false) (fun i _ _ => L.length - (intOf i).toNat)
    case atStart => exact ⟨0, rfl, by simp, by omega, Touch.refl _ _ _, fun i h => by omega, fun i h _ => hc i h, hfr⟩
    case round =>
      obtain ⟨j, rfl, rfl, hj, ht, hA, hB, hF⟩ := hrel
      have HT := hide ht
      have HA := hide hA
      have HBB := hide hB
      have HF := hide hF
      clear ht hA hB hF
      by_cases hlt : j < L.length
      · have hcj : wr.cell? ⟨b, off + j, none⟩ = some (.int .i64 L[j]) := HBB.out j hlt (Nat.le_refl _)
        have hfj : wr.frozen? ⟨b, off + j, none⟩ = false := HF.out j
        go_wp2
        go_roundw
        case rel =>
          refine ⟨j + 1, by go_num, by go_num, by omega, HT.out.trans (Touch.setCell _ _ _ _ _ ⟨hlo, hhi⟩), fun i hi' => ?_, fun i h hi' => ?_, fun i => ?_⟩
          · by_cases e : i = j
            · subst e; exact World.cell?_setCell_same' _ _ _ (by rw [hcj]; rfl)
            · rw [show (wr.setCell ⟨b, off + j, none⟩ (.int .i64 (k + j))).cell? ⟨b, off + i, none⟩ = wr.cell? ⟨b, off + i, none⟩ from by apply World.cell?_setCell_other; simp only [ne_eq, Addr.mk.injEq, not_and]; omega]
              exact HA.out i (by omega)
          · rw [show (wr.setCell ⟨b, off + j, none⟩ (.int .i64 (k + j))).cell? ⟨b, off + i, none⟩ = wr.cell? ⟨b, off + i, none⟩ from by apply World.cell?_setCell_other; simp only [ne_eq, Addr.mk.injEq, not_and]; omega]
            exact HBB.out i h (by omega)
          · rw [World.frozen?_setCell]
            exact HF.out i
        case measure => simp [intOf]; omega
      · have e : j = L.length := by omega
        subst e
        go_wp2
        go_ret
        refine ⟨rfl, HT.out, Or.inr ⟨b, off, cap, by rw [imarks_len], ?_, by rw [imarks_len]; unfold maxLen; omega, Nat.lt_of_lt_of_le hbw HT.out.size, fun i h => ?_, hlo, hhi, HF.out⟩⟩
        · intro e; have := congrArg List.length e; rw [imarks_len] at this; simp at this; exact hne this
        · rw [imarks_get]; exact HA.out i (by rw [imarks_len] at h; exact h)

end Go.Proofs.Ytmaagbnjpdijnaa

namespace Go.Proofs.Ytmaagbnjpdijnaa
open Go.RowKit Go.Deep

def LeOne (b o _c0 _c1 : Nat) (w : World) (x : Le) : Prop := LeSize x ∧ LeCells w b o x
theorem LeOne.near {b o c0 c1 o1 d0 d1 : Nat} {w w' : World} {x : Le} (h : LeOne b o c0 c1 w x) (hn : Near b o1 4 d0 d1 w w') (ho : o + 4 ≤ o1 ∨ o1 + 4 ≤ o) (hi : c1 ≤ d0 ∨ d1 ≤ c0) (hb : b < c0 ∨ c1 ≤ b) : LeOne b o c0 c1 w' x := by
  obtain ⟨hs, hc⟩ := h
  obtain ⟨h0, h1, h2, h3⟩ := hc
  have e : ∀ t, t < 4 → w'.cell? ⟨b, o + t, none⟩ = w.cell? ⟨b, o + t, none⟩ := fun t ht => hn.cell _ (by omega)
  have e0 : w'.cell? ⟨b, o, none⟩ = w.cell? ⟨b, o, none⟩ := hn.cell _ (by omega)
  exact ⟨hs, ⟨e0.trans h0, (e 1 (by omega)).trans h1, (e 2 (by omega)).trans h2, (e 3 (by omega)).trans h3⟩⟩
theorem LeOne.touch {b o c0 c1 : Nat} {lo hi : Nat} {w w' : World} {x : Le} (h : LeOne b o c0 c1 w x) (ht : Touch lo hi w w') (hlt : b < w.heap.size) (hb : b < lo ∨ hi ≤ b) (_hi : c1 ≤ lo ∨ hi ≤ c0) : LeOne b o c0 c1 w' x := by
  obtain ⟨hs, hc⟩ := h
  obtain ⟨h0, h1, h2, h3⟩ := hc
  exact ⟨hs, ⟨(ht.cell (p := ⟨b, o, none⟩) hlt hb).trans h0, (ht.cell (p := ⟨b, o + 1, none⟩) hlt hb).trans h1, (ht.cell (p := ⟨b, o + 2, none⟩) hlt hb).trans h2, (ht.cell (p := ⟨b, o + 3, none⟩) hlt hb).trans h3⟩⟩
theorem LeOne.below {b o c0 c1 : Nat}  {w w' : World} {x : Le} (h : LeOne b o c0 c1 w x) (ht : Below w.heap.size w w') (hlt : b < w.heap.size) : LeOne b o c0 c1 w' x := by
  obtain ⟨hs, hc⟩ := h
  obtain ⟨h0, h1, h2, h3⟩ := hc
  exact ⟨hs, ⟨(ht.cell (p := ⟨b, o, none⟩) hlt).trans h0, (ht.cell (p := ⟨b, o + 1, none⟩) hlt).trans h1, (ht.cell (p := ⟨b, o + 2, none⟩) hlt).trans h2, (ht.cell (p := ⟨b, o + 3, none⟩) hlt).trans h3⟩⟩
structure LeRow (lo hi : Nat) (w : World) (b off n : Nat) (c : Nat → Nat) (X : Nat → Le) : Prop where
  lt : b < w.heap.size
  low : lo ≤ b
  bc : b < c 0
  bh : b < hi
  mono : ∀ i, i < n → c i ≤ c (i + 1)
  top : c n ≤ hi
  frz : ∀ i, w.frozen? ⟨b, i, none⟩ = false
  row : ∀ i, i < n → LeOne b (off + i * 4) (c i) (c (i + 1)) w (X i)
theorem LeRow.le {lo hi : Nat} {w : World} {b off n : Nat} {c : Nat → Nat} {X : Nat → Le} (h : LeRow lo hi w b off n c X) {i : Nat} : ∀ {j : Nat}, i ≤ j → j ≤ n → c i ≤ c j := by
  intro j
  induction j with
  | zero => intro hij _; have : i = 0 := by omega
            subst this; exact Nat.le_refl _
  | succ j ih =>
    intro hij hjn
    by_cases e : i = j + 1
    · subst e; exact Nat.le_refl _
    · exact Nat.le_trans (ih (by omega) (by omega)) (h.mono j (by omega))
theorem LeRow.near {lo hi : Nat} {w w' : World} {b off n : Nat} {c : Nat → Nat} {X : Nat → Le} (h : LeRow lo hi w b off n c X) {j : Nat} (hj : j < n) (hn : Near b (off + j * 4) 4 (c j) (c (j + 1)) w w') {x : Le} (hx : LeOne b (off + j * 4) (c j) (c (j + 1)) w' x) : LeRow lo hi w' b off n c (fun i => if i = j then x else X i) := by
  refine ⟨Nat.lt_of_lt_of_le h.lt hn.size, h.low, h.bc, h.bh, h.mono, h.top, fun i => (hn.frz i).trans (h.frz i), fun i hi' => ?_⟩
  by_cases e : i = j
  · subst e; rw [if_pos rfl]; exact hx
  · rw [if_neg e]
    have h0 := h.le (Nat.zero_le i) (by omega)
    have hbc := h.bc
    refine (h.row i hi').near hn (by omega) ?_ (by omega)
    rcases Nat.lt_or_ge i j with hij | hij
    · exact Or.inl (h.le (by omega) (by omega))
    · exact Or.inr (h.le (by omega) (by omega))
theorem LeRow.touch {lo hi lo' hi' : Nat} {w w' : World} {b off n : Nat} {c : Nat → Nat} {X : Nat → Le} (h : LeRow lo hi w b off n c X) (ht : Touch lo' hi' w w') (ho : hi ≤ lo' ∨ hi' ≤ lo) : LeRow lo hi w' b off n c X := by
  have h1 := h.low
  have h2 := h.bh
  have h3 := h.top
  have h4 := h.bc
  refine ⟨Nat.lt_of_lt_of_le h.lt ht.size, h.low, h.bc, h.bh, h.mono, h.top, fun i => (ht.frozen (p := ⟨b, i, none⟩) h.lt (by simp only []; omega)).trans (h.frz i), fun i hi' => ?_⟩
  have h5 := h.le (Nat.zero_le i) (by omega)
  have h6 := h.le (i := i + 1) (j := n) (by omega) (Nat.le_refl _)
  exact (h.row i hi').touch ht h.lt (by omega) (by omega)
theorem LeRow.below {lo hi : Nat} {w w' : World} {b off n : Nat} {c : Nat → Nat} {X : Nat → Le} (h : LeRow lo hi w b off n c X) (ht : Below w.heap.size w w') : LeRow lo hi w' b off n c X :=
  ⟨Nat.lt_of_lt_of_le h.lt ht.size, h.low, h.bc, h.bh, h.mono, h.top, fun i => (ht.frozen (p := ⟨b, i, none⟩) h.lt).trans (h.frz i), fun i hi' => (h.row i hi').below ht h.lt⟩
theorem LeRow.to {lo hi : Nat} {w : World} {b off n : Nat} {c : Nat → Nat} {X Y : Nat → Le} (h : LeRow lo hi w b off n c X) (e : ∀ i, i < n → X i = Y i) : LeRow lo hi w b off n c Y :=
  ⟨h.lt, h.low, h.bc, h.bh, h.mono, h.top, h.frz, fun i hi' => e i hi' ▸ h.row i hi'⟩
/-- a list of one's own -/
def LesOwn (lo hi : Nat) (w : World) (v : Value) (Xl : List Le) : Prop :=
  (∃ (a : Option Addr) (cap : Nat), v = .slice a 0 cap ∧ Xl = []) ∨
  ∃ (b off cap : Nat) (c : Nat → Nat) (X : Nat → Le), v = .slice (some ⟨b, off, none⟩) Xl.length cap ∧ Xl ≠ [] ∧ Xl.length ≤ maxLen ∧ Xl.length ≤ cap ∧ (∀ i (h : i < Xl.length), X i = Xl[i]) ∧ LeRow lo hi w b off Xl.length c X
theorem LesOwn.touch {lo hi lo' hi' : Nat} {w w' : World} {v : Value} {Xl : List Le} (h : LesOwn lo hi w v Xl) (ht : Touch lo' hi' w w') (ho : hi ≤ lo' ∨ hi' ≤ lo) : LesOwn lo hi w' v Xl := by
  rcases h with h | ⟨b, off, cap, c, X, h1, h2, h3, h4, h5, h6⟩
  · exact Or.inl h
  · exact Or.inr ⟨b, off, cap, c, X, h1, h2, h3, h4, h5, h6.touch ht ho⟩
theorem LesOwn.below {lo hi : Nat} {w w' : World} {v : Value} {Xl : List Le} (h : LesOwn lo hi w v Xl) (ht : Below w.heap.size w w') : LesOwn lo hi w' v Xl := by
  rcases h with h | ⟨b, off, cap, c, X, h1, h2, h3, h4, h5, h6⟩
  · exact Or.inl h
  · exact Or.inr ⟨b, off, cap, c, X, h1, h2, h3, h4, h5, h6.below ht⟩
theorem LesOwn.form {lo hi : Nat} {w : World} {v : Value} {Xl : List Le} (h : LesOwn lo hi w v Xl) : ∃ a cap, v = .slice a Xl.length cap := by
  rcases h with ⟨a, cap, h, rfl⟩ | ⟨b, off, cap, c, X, h1, _⟩
  · exact ⟨a, cap, h⟩
  · exact ⟨_, cap, h1⟩
theorem LesOwn.at {lo hi : Nat} {w : World} {v : Value} {Xl : List Le} (h : LesOwn lo hi w v Xl) : LesAt lo w v Xl := by
  rcases h with h | ⟨b, off, cap, c, X, h1, h2, h3, h4, h5, h6⟩
  · exact Or.inl h
  · refine Or.inr ⟨b, off, cap, h1, h2, h3, h6.lt, h6.low, h4, fun i hi' => ?_⟩
    have hr := h6.row i hi'
    rw [h5 i hi'] at hr
    obtain ⟨hs, hc⟩ := hr
    exact ⟨hs, hc⟩
structure LeSt (wr : World) (b o c0 c1 : Nat) (v : World) (y : Le) : Prop where
  near : Near b o 4 c0 c1 wr v
  bc : b < c0
  cells : LeCells v b o y
  frz : ∀ i, v.frozen? ⟨b, i, none⟩ = false
  lt : b < v.heap.size
theorem LeSt.below {wr : World} {b o c0 c1 : Nat} {v v' : World} {y : Le} (h : LeSt wr b o c0 c1 v y) (hb : Below v.heap.size v v') : LeSt wr b o c0 c1 v' y :=
  ⟨h.near.trans (Near.below hb h.lt), h.bc, h.cells.below hb h.lt, fun i => (hb.frozen (p := ⟨b, i, none⟩) h.lt).trans (h.frz i), Nat.lt_of_lt_of_le h.lt hb.size⟩
theorem LeSt.s0 {wr : World} {b o c0 c1 : Nat} {v : World} {y : Le} (h : LeSt wr b o c0 c1 v y) (u : ByteArray) : LeSt wr b o c0 c1 (v.setCell ⟨b, o, none⟩ (.string u)) { y with tm := u } := by
  obtain ⟨h0, h1, h2, h3⟩ := h.cells
  have ht : Touch b (b + 1) v (v.setCell ⟨b, o, none⟩ (.string u)) := Touch.setCell _ _ _ _ _ ⟨Nat.le_refl _, by simp only []; omega⟩
  have hbc := h.bc
  exact ⟨h.near.trans (Near.set _ _ _ _ _ _ _ _ (by omega) (by omega)), h.bc, ⟨World.cell?_setCell_same' _ _ _ (by rw [h0]; rfl), (cne (by omega)).trans h1, (cne (by omega)).trans h2, (cne (by omega)).trans h3⟩, fun i => by rw [World.frozen?_setCell]; exact h.frz i, by simpa [World.setCell] using h.lt⟩
theorem LeSt.s1 {wr : World} {b o c0 c1 : Nat} {v : World} {y : Le} (h : LeSt wr b o c0 c1 v y) (u : ByteArray) : LeSt wr b o c0 c1 (v.setCell ⟨b, o + 1, none⟩ (.string u)) { y with re := u } := by
  obtain ⟨h0, h1, h2, h3⟩ := h.cells
  have ht : Touch b (b + 1) v (v.setCell ⟨b, o + 1, none⟩ (.string u)) := Touch.setCell _ _ _ _ _ ⟨Nat.le_refl _, by simp only []; omega⟩
  have hbc := h.bc
  exact ⟨h.near.trans (Near.set _ _ _ _ _ _ _ _ (by omega) (by omega)), h.bc, ⟨(cne (by omega)).trans h0, World.cell?_setCell_same' _ _ _ (by rw [h1]; rfl), (cne (by omega)).trans h2, (cne (by omega)).trans h3⟩, fun i => by rw [World.frozen?_setCell]; exact h.frz i, by simpa [World.setCell] using h.lt⟩
theorem LeSt.s2 {wr : World} {b o c0 c1 : Nat} {v : World} {y : Le} (h : LeSt wr b o c0 c1 v y) (u : Int) : LeSt wr b o c0 c1 (v.setCell ⟨b, o + 2, none⟩ (.int .i64 u)) { y with mo := u } := by
  obtain ⟨h0, h1, h2, h3⟩ := h.cells
  have ht : Touch b (b + 1) v (v.setCell ⟨b, o + 2, none⟩ (.int .i64 u)) := Touch.setCell _ _ _ _ _ ⟨Nat.le_refl _, by simp only []; omega⟩
  have hbc := h.bc
  exact ⟨h.near.trans (Near.set _ _ _ _ _ _ _ _ (by omega) (by omega)), h.bc, ⟨(cne (by omega)).trans h0, (cne (by omega)).trans h1, World.cell?_setCell_same' _ _ _ (by rw [h2]; rfl), (cne (by omega)).trans h3⟩, fun i => by rw [World.frozen?_setCell]; exact h.frz i, by simpa [World.setCell] using h.lt⟩
theorem LeSt.s3 {wr : World} {b o c0 c1 : Nat} {v : World} {y : Le} (h : LeSt wr b o c0 c1 v y) (u : Int) : LeSt wr b o c0 c1 (v.setCell ⟨b, o + 3, none⟩ (.int .i64 u)) { y with fr := u } := by
  obtain ⟨h0, h1, h2, h3⟩ := h.cells
  have ht : Touch b (b + 1) v (v.setCell ⟨b, o + 3, none⟩ (.int .i64 u)) := Touch.setCell _ _ _ _ _ ⟨Nat.le_refl _, by simp only []; omega⟩
  have hbc := h.bc
  exact ⟨h.near.trans (Near.set _ _ _ _ _ _ _ _ (by omega) (by omega)), h.bc, ⟨(cne (by omega)).trans h0, (cne (by omega)).trans h1, (cne (by omega)).trans h2, World.cell?_setCell_same' _ _ _ (by rw [h3]; rfl)⟩, fun i => by rw [World.frozen?_setCell]; exact h.frz i, by simpa [World.setCell] using h.lt⟩
end Go.Proofs.Ytmaagbnjpdijnaa

namespace Go.Proofs.Ytmaagbnjpdijnaa
open Go.RowKit Go.Deep

def PuOne (b o _c0 _c1 : Nat) (w : World) (x : Pu) : Prop := PuSize x ∧ PuCells w b o x
theorem PuOne.near {b o c0 c1 o1 d0 d1 : Nat} {w w' : World} {x : Pu} (h : PuOne b o c0 c1 w x) (hn : Near b o1 5 d0 d1 w w') (ho : o + 5 ≤ o1 ∨ o1 + 5 ≤ o) (hi : c1 ≤ d0 ∨ d1 ≤ c0) (hb : b < c0 ∨ c1 ≤ b) : PuOne b o c0 c1 w' x := by
  obtain ⟨hs, hc⟩ := h
  obtain ⟨h0, h1, h2, h3, h4⟩ := hc
  have e : ∀ t, t < 5 → w'.cell? ⟨b, o + t, none⟩ = w.cell? ⟨b, o + t, none⟩ := fun t ht => hn.cell _ (by omega)
  have e0 : w'.cell? ⟨b, o, none⟩ = w.cell? ⟨b, o, none⟩ := hn.cell _ (by omega)
  exact ⟨hs, ⟨e0.trans h0, (e 1 (by omega)).trans h1, (e 2 (by omega)).trans h2, (e 3 (by omega)).trans h3, (e 4 (by omega)).trans h4⟩⟩
theorem PuOne.touch {b o c0 c1 : Nat} {lo hi : Nat} {w w' : World} {x : Pu} (h : PuOne b o c0 c1 w x) (ht : Touch lo hi w w') (hlt : b < w.heap.size) (hb : b < lo ∨ hi ≤ b) (_hi : c1 ≤ lo ∨ hi ≤ c0) : PuOne b o c0 c1 w' x := by
  obtain ⟨hs, hc⟩ := h
  obtain ⟨h0, h1, h2, h3, h4⟩ := hc
  exact ⟨hs, ⟨(ht.cell (p := ⟨b, o, none⟩) hlt hb).trans h0, (ht.cell (p := ⟨b, o + 1, none⟩) hlt hb).trans h1, (ht.cell (p := ⟨b, o + 2, none⟩) hlt hb).trans h2, (ht.cell (p := ⟨b, o + 3, none⟩) hlt hb).trans h3, (ht.cell (p := ⟨b, o + 4, none⟩) hlt hb).trans h4⟩⟩
theorem PuOne.below {b o c0 c1 : Nat}  {w w' : World} {x : Pu} (h : PuOne b o c0 c1 w x) (ht : Below w.heap.size w w') (hlt : b < w.heap.size) : PuOne b o c0 c1 w' x := by
  obtain ⟨hs, hc⟩ := h
  obtain ⟨h0, h1, h2, h3, h4⟩ := hc
  exact ⟨hs, ⟨(ht.cell (p := ⟨b, o, none⟩) hlt).trans h0, (ht.cell (p := ⟨b, o + 1, none⟩) hlt).trans h1, (ht.cell (p := ⟨b, o + 2, none⟩) hlt).trans h2, (ht.cell (p := ⟨b, o + 3, none⟩) hlt).trans h3, (ht.cell (p := ⟨b, o + 4, none⟩) hlt).trans h4⟩⟩
structure PuRow (lo hi : Nat) (w : World) (b off n : Nat) (c : Nat → Nat) (X : Nat → Pu) : Prop where
  lt : b < w.heap.size
  low : lo ≤ b
  bc : b < c 0
  bh : b < hi
  mono : ∀ i, i < n → c i ≤ c (i + 1)
  top : c n ≤ hi
  frz : ∀ i, w.frozen? ⟨b, i, none⟩ = false
  row : ∀ i, i < n → PuOne b (off + i * 5) (c i) (c (i + 1)) w (X i)
theorem PuRow.le {lo hi : Nat} {w : World} {b off n : Nat} {c : Nat → Nat} {X : Nat → Pu} (h : PuRow lo hi w b off n c X) {i : Nat} : ∀ {j : Nat}, i ≤ j → j ≤ n → c i ≤ c j := by
  intro j
  induction j with
  | zero => intro hij _; have : i = 0 := by omega
            subst this; exact Nat.le_refl _
  | succ j ih =>
    intro hij hjn
    by_cases e : i = j + 1
    · subst e; exact Nat.le_refl _
    · exact Nat.le_trans (ih (by omega) (by omega)) (h.mono j (by omega))
theorem PuRow.near {lo hi : Nat} {w w' : World} {b off n : Nat} {c : Nat → Nat} {X : Nat → Pu} (h : PuRow lo hi w b off n c X) {j : Nat} (hj : j < n) (hn : Near b (off + j * 5) 5 (c j) (c (j + 1)) w w') {x : Pu} (hx : PuOne b (off + j * 5) (c j) (c (j + 1)) w' x) : PuRow lo hi w' b off n c (fun i => if i = j then x else X i) := by
  refine ⟨Nat.lt_of_lt_of_le h.lt hn.size, h.low, h.bc, h.bh, h.mono, h.top, fun i => (hn.frz i).trans (h.frz i), fun i hi' => ?_⟩
  by_cases e : i = j
  · subst e; rw [if_pos rfl]; exact hx
  · rw [if_neg e]
    have h0 := h.le (Nat.zero_le i) (by omega)
    have hbc := h.bc
    refine (h.row i hi').near hn (by omega) ?_ (by omega)
    rcases Nat.lt_or_ge i j with hij | hij
    · exact Or.inl (h.le (by omega) (by omega))
    · exact Or.inr (h.le (by omega) (by omega))
theorem PuRow.touch {lo hi lo' hi' : Nat} {w w' : World} {b off n : Nat} {c : Nat → Nat} {X : Nat → Pu} (h : PuRow lo hi w b off n c X) (ht : Touch lo' hi' w w') (ho : hi ≤ lo' ∨ hi' ≤ lo) : PuRow lo hi w' b off n c X := by
  have h1 := h.low
  have h2 := h.bh
  have h3 := h.top
  have h4 := h.bc
  refine ⟨Nat.lt_of_lt_of_le h.lt ht.size, h.low, h.bc, h.bh, h.mono, h.top, fun i => (ht.frozen (p := ⟨b, i, none⟩) h.lt (by simp only []; omega)).trans (h.frz i), fun i hi' => ?_⟩
  have h5 := h.le (Nat.zero_le i) (by omega)
  have h6 := h.le (i := i + 1) (j := n) (by omega) (Nat.le_refl _)
  exact (h.row i hi').touch ht h.lt (by omega) (by omega)
theorem PuRow.below {lo hi : Nat} {w w' : World} {b off n : Nat} {c : Nat → Nat} {X : Nat → Pu} (h : PuRow lo hi w b off n c X) (ht : Below w.heap.size w w') : PuRow lo hi w' b off n c X :=
  ⟨Nat.lt_of_lt_of_le h.lt ht.size, h.low, h.bc, h.bh, h.mono, h.top, fun i => (ht.frozen (p := ⟨b, i, none⟩) h.lt).trans (h.frz i), fun i hi' => (h.row i hi').below ht h.lt⟩
theorem PuRow.to {lo hi : Nat} {w : World} {b off n : Nat} {c : Nat → Nat} {X Y : Nat → Pu} (h : PuRow lo hi w b off n c X) (e : ∀ i, i < n → X i = Y i) : PuRow lo hi w b off n c Y :=
  ⟨h.lt, h.low, h.bc, h.bh, h.mono, h.top, h.frz, fun i hi' => e i hi' ▸ h.row i hi'⟩
/-- a list of one's own -/
def PusOwn (lo hi : Nat) (w : World) (v : Value) (Xl : List Pu) : Prop :=
  (∃ (a : Option Addr) (cap : Nat), v = .slice a 0 cap ∧ Xl = []) ∨
  ∃ (b off cap : Nat) (c : Nat → Nat) (X : Nat → Pu), v = .slice (some ⟨b, off, none⟩) Xl.length cap ∧ Xl ≠ [] ∧ Xl.length ≤ maxLen ∧ Xl.length ≤ cap ∧ (∀ i (h : i < Xl.length), X i = Xl[i]) ∧ PuRow lo hi w b off Xl.length c X
theorem PusOwn.touch {lo hi lo' hi' : Nat} {w w' : World} {v : Value} {Xl : List Pu} (h : PusOwn lo hi w v Xl) (ht : Touch lo' hi' w w') (ho : hi ≤ lo' ∨ hi' ≤ lo) : PusOwn lo hi w' v Xl := by
  rcases h with h | ⟨b, off, cap, c, X, h1, h2, h3, h4, h5, h6⟩
  · exact Or.inl h
  · exact Or.inr ⟨b, off, cap, c, X, h1, h2, h3, h4, h5, h6.touch ht ho⟩
theorem PusOwn.below {lo hi : Nat} {w w' : World} {v : Value} {Xl : List Pu} (h : PusOwn lo hi w v Xl) (ht : Below w.heap.size w w') : PusOwn lo hi w' v Xl := by
  rcases h with h | ⟨b, off, cap, c, X, h1, h2, h3, h4, h5, h6⟩
  · exact Or.inl h
  · exact Or.inr ⟨b, off, cap, c, X, h1, h2, h3, h4, h5, h6.below ht⟩
theorem PusOwn.form {lo hi : Nat} {w : World} {v : Value} {Xl : List Pu} (h : PusOwn lo hi w v Xl) : ∃ a cap, v = .slice a Xl.length cap := by
  rcases h with ⟨a, cap, h, rfl⟩ | ⟨b, off, cap, c, X, h1, _⟩
  · exact ⟨a, cap, h⟩
  · exact ⟨_, cap, h1⟩
theorem PusOwn.at {lo hi : Nat} {w : World} {v : Value} {Xl : List Pu} (h : PusOwn lo hi w v Xl) : PusAt lo w v Xl := by
  rcases h with h | ⟨b, off, cap, c, X, h1, h2, h3, h4, h5, h6⟩
  · exact Or.inl h
  · refine Or.inr ⟨b, off, cap, h1, h2, h3, h6.lt, h6.low, h4, fun i hi' => ?_⟩
    have hr := h6.row i hi'
    rw [h5 i hi'] at hr
    obtain ⟨hs, hc⟩ := hr
    exact ⟨hs, hc⟩
structure PuSt (wr : World) (b o c0 c1 : Nat) (v : World) (y : Pu) : Prop where
  near : Near b o 5 c0 c1 wr v
  bc : b < c0
  cells : PuCells v b o y
  frz : ∀ i, v.frozen? ⟨b, i, none⟩ = false
  lt : b < v.heap.size
theorem PuSt.below {wr : World} {b o c0 c1 : Nat} {v v' : World} {y : Pu} (h : PuSt wr b o c0 c1 v y) (hb : Below v.heap.size v v') : PuSt wr b o c0 c1 v' y :=
  ⟨h.near.trans (Near.below hb h.lt), h.bc, h.cells.below hb h.lt, fun i => (hb.frozen (p := ⟨b, i, none⟩) h.lt).trans (h.frz i), Nat.lt_of_lt_of_le h.lt hb.size⟩
theorem PuSt.s0 {wr : World} {b o c0 c1 : Nat} {v : World} {y : Pu} (h : PuSt wr b o c0 c1 v y) (u : ByteArray) : PuSt wr b o c0 c1 (v.setCell ⟨b, o, none⟩ (.string u)) { y with dr := u } := by
  obtain ⟨h0, h1, h2, h3, h4⟩ := h.cells
  have ht : Touch b (b + 1) v (v.setCell ⟨b, o, none⟩ (.string u)) := Touch.setCell _ _ _ _ _ ⟨Nat.le_refl _, by simp only []; omega⟩
  have hbc := h.bc
  exact ⟨h.near.trans (Near.set _ _ _ _ _ _ _ _ (by omega) (by omega)), h.bc, ⟨World.cell?_setCell_same' _ _ _ (by rw [h0]; rfl), (cne (by omega)).trans h1, (cne (by omega)).trans h2, (cne (by omega)).trans h3, (cne (by omega)).trans h4⟩, fun i => by rw [World.frozen?_setCell]; exact h.frz i, by simpa [World.setCell] using h.lt⟩
theorem PuSt.s1 {wr : World} {b o c0 c1 : Nat} {v : World} {y : Pu} (h : PuSt wr b o c0 c1 v y) (u : ByteArray) : PuSt wr b o c0 c1 (v.setCell ⟨b, o + 1, none⟩ (.string u)) { y with tm := u } := by
  obtain ⟨h0, h1, h2, h3, h4⟩ := h.cells
  have ht : Touch b (b + 1) v (v.setCell ⟨b, o + 1, none⟩ (.string u)) := Touch.setCell _ _ _ _ _ ⟨Nat.le_refl _, by simp only []; omega⟩
  have hbc := h.bc
  exact ⟨h.near.trans (Near.set _ _ _ _ _ _ _ _ (by omega) (by omega)), h.bc, ⟨(cne (by omega)).trans h0, World.cell?_setCell_same' _ _ _ (by rw [h1]; rfl), (cne (by omega)).trans h2, (cne (by omega)).trans h3, (cne (by omega)).trans h4⟩, fun i => by rw [World.frozen?_setCell]; exact h.frz i, by simpa [World.setCell] using h.lt⟩
theorem PuSt.s2 {wr : World} {b o c0 c1 : Nat} {v : World} {y : Pu} (h : PuSt wr b o c0 c1 v y) (u : ByteArray) : PuSt wr b o c0 c1 (v.setCell ⟨b, o + 2, none⟩ (.string u)) { y with re := u } := by
  obtain ⟨h0, h1, h2, h3, h4⟩ := h.cells
  have ht : Touch b (b + 1) v (v.setCell ⟨b, o + 2, none⟩ (.string u)) := Touch.setCell _ _ _ _ _ ⟨Nat.le_refl _, by simp only []; omega⟩
  have hbc := h.bc
  exact ⟨h.near.trans (Near.set _ _ _ _ _ _ _ _ (by omega) (by omega)), h.bc, ⟨(cne (by omega)).trans h0, (cne (by omega)).trans h1, World.cell?_setCell_same' _ _ _ (by rw [h2]; rfl), (cne (by omega)).trans h3, (cne (by omega)).trans h4⟩, fun i => by rw [World.frozen?_setCell]; exact h.frz i, by simpa [World.setCell] using h.lt⟩
theorem PuSt.s3 {wr : World} {b o c0 c1 : Nat} {v : World} {y : Pu} (h : PuSt wr b o c0 c1 v y) (u : Int) : PuSt wr b o c0 c1 (v.setCell ⟨b, o + 3, none⟩ (.int .i64 u)) { y with am := u } := by
  obtain ⟨h0, h1, h2, h3, h4⟩ := h.cells
  have ht : Touch b (b + 1) v (v.setCell ⟨b, o + 3, none⟩ (.int .i64 u)) := Touch.setCell _ _ _ _ _ ⟨Nat.le_refl _, by simp only []; omega⟩
  have hbc := h.bc
  exact ⟨h.near.trans (Near.set _ _ _ _ _ _ _ _ (by omega) (by omega)), h.bc, ⟨(cne (by omega)).trans h0, (cne (by omega)).trans h1, (cne (by omega)).trans h2, World.cell?_setCell_same' _ _ _ (by rw [h3]; rfl), (cne (by omega)).trans h4⟩, fun i => by rw [World.frozen?_setCell]; exact h.frz i, by simpa [World.setCell] using h.lt⟩
theorem PuSt.s4 {wr : World} {b o c0 c1 : Nat} {v : World} {y : Pu} (h : PuSt wr b o c0 c1 v y) (u : Int) : PuSt wr b o c0 c1 (v.setCell ⟨b, o + 4, none⟩ (.int .i64 u)) { y with un := u } := by
  obtain ⟨h0, h1, h2, h3, h4⟩ := h.cells
  have ht : Touch b (b + 1) v (v.setCell ⟨b, o + 4, none⟩ (.int .i64 u)) := Touch.setCell _ _ _ _ _ ⟨Nat.le_refl _, by simp only []; omega⟩
  have hbc := h.bc
  exact ⟨h.near.trans (Near.set _ _ _ _ _ _ _ _ (by omega) (by omega)), h.bc, ⟨(cne (by omega)).trans h0, (cne (by omega)).trans h1, (cne (by omega)).trans h2, (cne (by omega)).trans h3, World.cell?_setCell_same' _ _ _ (by rw [h4]; rfl)⟩, fun i => by rw [World.frozen?_setCell]; exact h.frz i, by simpa [World.setCell] using h.lt⟩
end Go.Proofs.Ytmaagbnjpdijnaa

namespace Go.Proofs.Ytmaagbnjpdijnaa
open Go.RowKit Go.Deep

def GrOne (b o c0 c1 : Nat) (w : World) (x : Gr) : Prop := GrSize x ∧ ∃ (vv0 : Value), c0 ≤ c1 ∧ GrCells w b o x vv0 ∧ IntsOwn c0 c1 w vv0 x.vb
theorem GrOne.near {b o c0 c1 o1 d0 d1 : Nat} {w w' : World} {x : Gr} (h : GrOne b o c0 c1 w x) (hn : Near b o1 7 d0 d1 w w') (ho : o + 7 ≤ o1 ∨ o1 + 7 ≤ o) (hi : c1 ≤ d0 ∨ d1 ≤ c0) (hb : b < c0 ∨ c1 ≤ b) : GrOne b o c0 c1 w' x := by
  obtain ⟨hs, vv0, q0, hc, l0⟩ := h
  obtain ⟨h0, h1, h2, h3, h4, h5, h6⟩ := hc
  have e : ∀ t, t < 7 → w'.cell? ⟨b, o + t, none⟩ = w.cell? ⟨b, o + t, none⟩ := fun t ht => hn.cell _ (by omega)
  have e0 : w'.cell? ⟨b, o, none⟩ = w.cell? ⟨b, o, none⟩ := hn.cell _ (by omega)
  exact ⟨hs, vv0, q0, ⟨e0.trans h0, (e 1 (by omega)).trans h1, (e 2 (by omega)).trans h2, (e 3 (by omega)).trans h3, (e 4 (by omega)).trans h4, (e 5 (by omega)).trans h5, (e 6 (by omega)).trans h6⟩, l0.near hn (by omega) (by omega)⟩
theorem GrOne.touch {b o c0 c1 : Nat} {lo hi : Nat} {w w' : World} {x : Gr} (h : GrOne b o c0 c1 w x) (ht : Touch lo hi w w') (hlt : b < w.heap.size) (hb : b < lo ∨ hi ≤ b) (hi' : c1 ≤ lo ∨ hi ≤ c0) : GrOne b o c0 c1 w' x := by
  obtain ⟨hs, vv0, q0, hc, l0⟩ := h
  obtain ⟨h0, h1, h2, h3, h4, h5, h6⟩ := hc
  exact ⟨hs, vv0, q0, ⟨(ht.cell (p := ⟨b, o, none⟩) hlt hb).trans h0, (ht.cell (p := ⟨b, o + 1, none⟩) hlt hb).trans h1, (ht.cell (p := ⟨b, o + 2, none⟩) hlt hb).trans h2, (ht.cell (p := ⟨b, o + 3, none⟩) hlt hb).trans h3, (ht.cell (p := ⟨b, o + 4, none⟩) hlt hb).trans h4, (ht.cell (p := ⟨b, o + 5, none⟩) hlt hb).trans h5, (ht.cell (p := ⟨b, o + 6, none⟩) hlt hb).trans h6⟩, l0.touch ht (by omega)⟩
theorem GrOne.below {b o c0 c1 : Nat}  {w w' : World} {x : Gr} (h : GrOne b o c0 c1 w x) (ht : Below w.heap.size w w') (hlt : b < w.heap.size) : GrOne b o c0 c1 w' x := by
  obtain ⟨hs, vv0, q0, hc, l0⟩ := h
  obtain ⟨h0, h1, h2, h3, h4, h5, h6⟩ := hc
  exact ⟨hs, vv0, q0, ⟨(ht.cell (p := ⟨b, o, none⟩) hlt).trans h0, (ht.cell (p := ⟨b, o + 1, none⟩) hlt).trans h1, (ht.cell (p := ⟨b, o + 2, none⟩) hlt).trans h2, (ht.cell (p := ⟨b, o + 3, none⟩) hlt).trans h3, (ht.cell (p := ⟨b, o + 4, none⟩) hlt).trans h4, (ht.cell (p := ⟨b, o + 5, none⟩) hlt).trans h5, (ht.cell (p := ⟨b, o + 6, none⟩) hlt).trans h6⟩, l0.below ht⟩
structure GrRow (lo hi : Nat) (w : World) (b off n : Nat) (c : Nat → Nat × Nat) (X : Nat → Gr) : Prop where
  lt : b < w.heap.size
  low : lo ≤ b
  bh : b < hi
  seg : ∀ i, i < n → lo ≤ (c i).1 ∧ (c i).2 ≤ hi ∧ (b < (c i).1 ∨ (c i).2 ≤ b)
  mono : ∀ i j, i < j → j < n → (c i).2 ≤ (c j).1
  frz : ∀ i, w.frozen? ⟨b, i, none⟩ = false
  row : ∀ i, i < n → GrOne b (off + i * 7) (c i).1 (c i).2 w (X i)
theorem GrRow.near {lo hi : Nat} {w w' : World} {b off n : Nat} {c : Nat → Nat × Nat} {X : Nat → Gr} (h : GrRow lo hi w b off n c X) {j : Nat} (hj : j < n) (hn : Near b (off + j * 7) 7 (c j).1 (c j).2 w w') {x : Gr} (hx : GrOne b (off + j * 7) (c j).1 (c j).2 w' x) : GrRow lo hi w' b off n c (fun i => if i = j then x else X i) := by
  refine ⟨Nat.lt_of_lt_of_le h.lt hn.size, h.low, h.bh, h.seg, h.mono, fun i => (hn.frz i).trans (h.frz i), fun i hi' => ?_⟩
  by_cases e : i = j
  · subst e; rw [if_pos rfl]; exact hx
  · rw [if_neg e]
    refine (h.row i hi').near hn (by omega) ?_ (h.seg i hi').2.2
    rcases Nat.lt_or_ge i j with hij | hij
    · exact Or.inl (h.mono i j hij hj)
    · exact Or.inr (h.mono j i (by omega) hi')
theorem GrRow.touch {lo hi lo' hi' : Nat} {w w' : World} {b off n : Nat} {c : Nat → Nat × Nat} {X : Nat → Gr} (h : GrRow lo hi w b off n c X) (ht : Touch lo' hi' w w') (ho : hi ≤ lo' ∨ hi' ≤ lo) : GrRow lo hi w' b off n c X := by
  have h1 := h.low
  have h2 := h.bh
  refine ⟨Nat.lt_of_lt_of_le h.lt ht.size, h.low, h.bh, h.seg, h.mono, fun i => (ht.frozen (p := ⟨b, i, none⟩) h.lt (by simp only []; omega)).trans (h.frz i), fun i hi' => ?_⟩
  have h5 := h.seg i hi'
  exact (h.row i hi').touch ht h.lt (by omega) (by omega)
theorem GrRow.below {lo hi : Nat} {w w' : World} {b off n : Nat} {c : Nat → Nat × Nat} {X : Nat → Gr} (h : GrRow lo hi w b off n c X) (ht : Below w.heap.size w w') : GrRow lo hi w' b off n c X :=
  ⟨Nat.lt_of_lt_of_le h.lt ht.size, h.low, h.bh, h.seg, h.mono, fun i => (ht.frozen (p := ⟨b, i, none⟩) h.lt).trans (h.frz i), fun i hi' => (h.row i hi').below ht h.lt⟩
theorem GrRow.to {lo hi : Nat} {w : World} {b off n : Nat} {c : Nat → Nat × Nat} {X Y : Nat → Gr} (h : GrRow lo hi w b off n c X) (e : ∀ i, i < n → X i = Y i) : GrRow lo hi w b off n c Y :=
  ⟨h.lt, h.low, h.bh, h.seg, h.mono, h.frz, fun i hi' => e i hi' ▸ h.row i hi'⟩
/-- a list of one's own -/
def GrsOwn (lo hi : Nat) (w : World) (v : Value) (Xl : List Gr) : Prop :=
  (∃ (a : Option Addr) (cap : Nat), v = .slice a 0 cap ∧ Xl = []) ∨
  ∃ (b off cap : Nat) (c : Nat → Nat × Nat) (X : Nat → Gr), v = .slice (some ⟨b, off, none⟩) Xl.length cap ∧ Xl ≠ [] ∧ Xl.length ≤ maxLen ∧ Xl.length ≤ cap ∧ (∀ i (h : i < Xl.length), X i = Xl[i]) ∧ GrRow lo hi w b off Xl.length c X
theorem GrsOwn.touch {lo hi lo' hi' : Nat} {w w' : World} {v : Value} {Xl : List Gr} (h : GrsOwn lo hi w v Xl) (ht : Touch lo' hi' w w') (ho : hi ≤ lo' ∨ hi' ≤ lo) : GrsOwn lo hi w' v Xl := by
  rcases h with h | ⟨b, off, cap, c, X, h1, h2, h3, h4, h5, h6⟩
  · exact Or.inl h
  · exact Or.inr ⟨b, off, cap, c, X, h1, h2, h3, h4, h5, h6.touch ht ho⟩
theorem GrsOwn.below {lo hi : Nat} {w w' : World} {v : Value} {Xl : List Gr} (h : GrsOwn lo hi w v Xl) (ht : Below w.heap.size w w') : GrsOwn lo hi w' v Xl := by
  rcases h with h | ⟨b, off, cap, c, X, h1, h2, h3, h4, h5, h6⟩
  · exact Or.inl h
  · exact Or.inr ⟨b, off, cap, c, X, h1, h2, h3, h4, h5, h6.below ht⟩
theorem GrsOwn.form {lo hi : Nat} {w : World} {v : Value} {Xl : List Gr} (h : GrsOwn lo hi w v Xl) : ∃ a cap, v = .slice a Xl.length cap := by
  rcases h with ⟨a, cap, h, rfl⟩ | ⟨b, off, cap, c, X, h1, _⟩
  · exact ⟨a, cap, h⟩
  · exact ⟨_, cap, h1⟩
theorem GrsOwn.at {lo hi : Nat} {w : World} {v : Value} {Xl : List Gr} (h : GrsOwn lo hi w v Xl) : GrsAt lo w v Xl := by
  rcases h with h | ⟨b, off, cap, c, X, h1, h2, h3, h4, h5, h6⟩
  · exact Or.inl h
  · refine Or.inr ⟨b, off, cap, h1, h2, h3, h6.lt, h6.low, h4, fun i hi' => ?_⟩
    have hr := h6.row i hi'
    have g0 := h6.seg i hi'
    rw [h5 i hi'] at hr
    obtain ⟨hs, vv0, q0, hc, l0⟩ := hr
    exact ⟨hs, vv0, hc, (l0.in').mono (by omega)⟩
/-- marks from k on -/
def mkGr (k : Int) (x : Gr) : Gr := ⟨k, mtB (k + 1), mtB (k + 1 + 1), imarks (k + 1 + 1 + 1) x.vb.length, mtB (k + 1 + 1 + 1 + x.vb.length), mtB (k + 1 + 1 + 1 + x.vb.length + 1), mtB (k + 1 + 1 + 1 + x.vb.length + 1 + 1)⟩
def wdGr (x : Gr) : Nat := 6 + x.vb.length
def posGr (Xl : List Gr) (i : Nat) : Nat := ((Xl.take i).map wdGr).sum
def mkGrs (k : Int) (Xl : List Gr) : List Gr := Xl.mapIdx (fun i x => mkGr (k + (posGr Xl i : Int)) x)
theorem mkGrs_len (k : Int) (Xl : List Gr) : (mkGrs k Xl).length = Xl.length := by unfold mkGrs; simp
theorem mkGrs_get (k : Int) (Xl : List Gr) (i : Nat) (h : i < (mkGrs k Xl).length) (h' : i < Xl.length) : (mkGrs k Xl)[i] = mkGr (k + (posGr Xl i : Int)) Xl[i] := List.getElem_mapIdx (f := fun i x => mkGr (k + (posGr Xl i : Int)) x) (h := h)
theorem posGr_succ {Xl : List Gr} {i : Nat} (h : i < Xl.length) : posGr Xl (i + 1) = posGr Xl i + wdGr Xl[i] := by
  unfold posGr
  rw [List.take_succ_eq_append_getElem h, List.map_append, List.sum_append]
  simp
theorem posGr_le {Xl : List Gr} (hn : GrsSmall Xl) : ∀ {i : Nat}, i ≤ Xl.length → posGr Xl i ≤ i * 3000000 := by
  intro i
  induction i with
  | zero => intro _; simp [posGr]
  | succ i ih =>
    intro hi'
    have h1 := ih (by omega)
    rw [posGr_succ (by omega)]
    have h2 : wdGr Xl[i] ≤ 3000000 := by
      have hsm := hn.2 i (by omega)
      unfold GrSmall at hsm
      unfold wdGr
      omega
    omega
structure GrSt (wr : World) (b o c0 c1 : Nat) (vv0 : Value) (v : World) (y : Gr) : Prop where
  near : Near b o 7 c0 c1 wr v
  bc : b < c0 ∨ c1 ≤ b
  q0 : c0 ≤ c1
  cells : GrCells v b o y vv0
  l0 : IntsOwn c0 c1 v vv0 y.vb
  frz : ∀ i, v.frozen? ⟨b, i, none⟩ = false
  lt : b < v.heap.size
theorem GrSt.below {wr : World} {b o c0 c1 : Nat} {vv0 : Value} {v v' : World} {y : Gr} (h : GrSt wr b o c0 c1 vv0 v y) (hb : Below v.heap.size v v') : GrSt wr b o c0 c1 vv0 v' y :=
  ⟨h.near.trans (Near.below hb h.lt), h.bc, h.q0, h.cells.below hb h.lt, h.l0.below hb, fun i => (hb.frozen (p := ⟨b, i, none⟩) h.lt).trans (h.frz i), Nat.lt_of_lt_of_le h.lt hb.size⟩
theorem GrSt.s0 {wr : World} {b o c0 c1 : Nat} {vv0 : Value} {v : World} {y : Gr} (h : GrSt wr b o c0 c1 vv0 v y) (u : Int) : GrSt wr b o c0 c1 vv0 (v.setCell ⟨b, o, none⟩ (.int .i64 u)) { y with nu := u } := by
  obtain ⟨h0, h1, h2, h3, h4, h5, h6⟩ := h.cells
  have ht : Touch b (b + 1) v (v.setCell ⟨b, o, none⟩ (.int .i64 u)) := Touch.setCell _ _ _ _ _ ⟨Nat.le_refl _, by simp only []; omega⟩
  have hbc := h.bc
  have hq0 := h.q0
  exact ⟨h.near.trans (Near.set _ _ _ _ _ _ _ _ (by omega) (by omega)), h.bc, h.q0, ⟨World.cell?_setCell_same' _ _ _ (by rw [h0]; rfl), (cne (by omega)).trans h1, (cne (by omega)).trans h2, (cne (by omega)).trans h3, (cne (by omega)).trans h4, (cne (by omega)).trans h5, (cne (by omega)).trans h6⟩, h.l0.touch ht (by omega), fun i => by rw [World.frozen?_setCell]; exact h.frz i, by simpa [World.setCell] using h.lt⟩
theorem GrSt.s1 {wr : World} {b o c0 c1 : Nat} {vv0 : Value} {v : World} {y : Gr} (h : GrSt wr b o c0 c1 vv0 v y) (u : ByteArray) : GrSt wr b o c0 c1 vv0 (v.setCell ⟨b, o + 1, none⟩ (.string u)) { y with tw := u } := by
  obtain ⟨h0, h1, h2, h3, h4, h5, h6⟩ := h.cells
  have ht : Touch b (b + 1) v (v.setCell ⟨b, o + 1, none⟩ (.string u)) := Touch.setCell _ _ _ _ _ ⟨Nat.le_refl _, by simp only []; omega⟩
  have hbc := h.bc
  have hq0 := h.q0
  exact ⟨h.near.trans (Near.set _ _ _ _ _ _ _ _ (by omega) (by omega)), h.bc, h.q0, ⟨(cne (by omega)).trans h0, World.cell?_setCell_same' _ _ _ (by rw [h1]; rfl), (cne (by omega)).trans h2, (cne (by omega)).trans h3, (cne (by omega)).trans h4, (cne (by omega)).trans h5, (cne (by omega)).trans h6⟩, h.l0.touch ht (by omega), fun i => by rw [World.frozen?_setCell]; exact h.frz i, by simpa [World.setCell] using h.lt⟩
theorem GrSt.s2 {wr : World} {b o c0 c1 : Nat} {vv0 : Value} {v : World} {y : Gr} (h : GrSt wr b o c0 c1 vv0 v y) (u : ByteArray) : GrSt wr b o c0 c1 vv0 (v.setCell ⟨b, o + 2, none⟩ (.string u)) { y with gb := u } := by
  obtain ⟨h0, h1, h2, h3, h4, h5, h6⟩ := h.cells
  have ht : Touch b (b + 1) v (v.setCell ⟨b, o + 2, none⟩ (.string u)) := Touch.setCell _ _ _ _ _ ⟨Nat.le_refl _, by simp only []; omega⟩
  have hbc := h.bc
  have hq0 := h.q0
  exact ⟨h.near.trans (Near.set _ _ _ _ _ _ _ _ (by omega) (by omega)), h.bc, h.q0, ⟨(cne (by omega)).trans h0, (cne (by omega)).trans h1, World.cell?_setCell_same' _ _ _ (by rw [h2]; rfl), (cne (by omega)).trans h3, (cne (by omega)).trans h4, (cne (by omega)).trans h5, (cne (by omega)).trans h6⟩, h.l0.touch ht (by omega), fun i => by rw [World.frozen?_setCell]; exact h.frz i, by simpa [World.setCell] using h.lt⟩
theorem GrSt.s4 {wr : World} {b o c0 c1 : Nat} {vv0 : Value} {v : World} {y : Gr} (h : GrSt wr b o c0 c1 vv0 v y) (u : ByteArray) : GrSt wr b o c0 c1 vv0 (v.setCell ⟨b, o + 4, none⟩ (.string u)) { y with kd := u } := by
  obtain ⟨h0, h1, h2, h3, h4, h5, h6⟩ := h.cells
  have ht : Touch b (b + 1) v (v.setCell ⟨b, o + 4, none⟩ (.string u)) := Touch.setCell _ _ _ _ _ ⟨Nat.le_refl _, by simp only []; omega⟩
  have hbc := h.bc
  have hq0 := h.q0
  exact ⟨h.near.trans (Near.set _ _ _ _ _ _ _ _ (by omega) (by omega)), h.bc, h.q0, ⟨(cne (by omega)).trans h0, (cne (by omega)).trans h1, (cne (by omega)).trans h2, (cne (by omega)).trans h3, World.cell?_setCell_same' _ _ _ (by rw [h4]; rfl), (cne (by omega)).trans h5, (cne (by omega)).trans h6⟩, h.l0.touch ht (by omega), fun i => by rw [World.frozen?_setCell]; exact h.frz i, by simpa [World.setCell] using h.lt⟩
theorem GrSt.s5 {wr : World} {b o c0 c1 : Nat} {vv0 : Value} {v : World} {y : Gr} (h : GrSt wr b o c0 c1 vv0 v y) (u : ByteArray) : GrSt wr b o c0 c1 vv0 (v.setCell ⟨b, o + 5, none⟩ (.string u)) { y with tm := u } := by
  obtain ⟨h0, h1, h2, h3, h4, h5, h6⟩ := h.cells
  have ht : Touch b (b + 1) v (v.setCell ⟨b, o + 5, none⟩ (.string u)) := Touch.setCell _ _ _ _ _ ⟨Nat.le_refl _, by simp only []; omega⟩
  have hbc := h.bc
  have hq0 := h.q0
  exact ⟨h.near.trans (Near.set _ _ _ _ _ _ _ _ (by omega) (by omega)), h.bc, h.q0, ⟨(cne (by omega)).trans h0, (cne (by omega)).trans h1, (cne (by omega)).trans h2, (cne (by omega)).trans h3, (cne (by omega)).trans h4, World.cell?_setCell_same' _ _ _ (by rw [h5]; rfl), (cne (by omega)).trans h6⟩, h.l0.touch ht (by omega), fun i => by rw [World.frozen?_setCell]; exact h.frz i, by simpa [World.setCell] using h.lt⟩
theorem GrSt.s6 {wr : World} {b o c0 c1 : Nat} {vv0 : Value} {v : World} {y : Gr} (h : GrSt wr b o c0 c1 vv0 v y) (u : ByteArray) : GrSt wr b o c0 c1 vv0 (v.setCell ⟨b, o + 6, none⟩ (.string u)) { y with pf := u } := by
  obtain ⟨h0, h1, h2, h3, h4, h5, h6⟩ := h.cells
  have ht : Touch b (b + 1) v (v.setCell ⟨b, o + 6, none⟩ (.string u)) := Touch.setCell _ _ _ _ _ ⟨Nat.le_refl _, by simp only []; omega⟩
  have hbc := h.bc
  have hq0 := h.q0
  exact ⟨h.near.trans (Near.set _ _ _ _ _ _ _ _ (by omega) (by omega)), h.bc, h.q0, ⟨(cne (by omega)).trans h0, (cne (by omega)).trans h1, (cne (by omega)).trans h2, (cne (by omega)).trans h3, (cne (by omega)).trans h4, (cne (by omega)).trans h5, World.cell?_setCell_same' _ _ _ (by rw [h6]; rfl)⟩, h.l0.touch ht (by omega), fun i => by rw [World.frozen?_setCell]; exact h.frz i, by simpa [World.setCell] using h.lt⟩
theorem GrSt.m0' {wr : World} {b o c0 c1 : Nat} {vv0 : Value} {v v' : World} {y : Gr} (h : GrSt wr b o c0 c1 vv0 v y) (ht : Touch c0 c1 v v') {L : List Int} (hl : IntsOwn c0 c1 v' vv0 L) : GrSt wr b o c0 c1 vv0 v' { y with vb := L } := by
  obtain ⟨h0, h1, h2, h3, h4, h5, h6⟩ := h.cells
  have hbc := h.bc
  have hq0 := h.q0
  have hlt := h.lt
  have e : ∀ i, v'.cell? ⟨b, i, none⟩ = v.cell? ⟨b, i, none⟩ := fun i => ht.cell (p := ⟨b, i, none⟩) h.lt (by simp only []; omega)
  exact ⟨h.near.trans (Near.touch ht h.lt (by omega) (by omega) (by omega)), h.bc, h.q0, ⟨(e _).trans h0, (e _).trans h1, (e _).trans h2, (e _).trans h3, (e _).trans h4, (e _).trans h5, (e _).trans h6⟩, hl, fun i => (ht.frozen (p := ⟨b, i, none⟩) h.lt (by simp only []; omega)).trans (h.frz i), Nat.lt_of_lt_of_le h.lt ht.size⟩
end Go.Proofs.Ytmaagbnjpdijnaa

namespace Go.Proofs.Ytmaagbnjpdijnaa
open Go.RowKit Go.Deep

def ObOne (b o c0 c1 : Nat) (w : World) (x : Ob) : Prop := ObSize x ∧ ∃ (vv0 vv1 : Value) (m1 : Nat), c0 ≤ m1 ∧ m1 ≤ c1 ∧ ObCells w b o x vv0 vv1 ∧ StrsOwn c0 m1 w vv0 x.vs ∧ StrsOwn m1 c1 w vv1 x.hs
theorem ObOne.near {b o c0 c1 o1 d0 d1 : Nat} {w w' : World} {x : Ob} (h : ObOne b o c0 c1 w x) (hn : Near b o1 7 d0 d1 w w') (ho : o + 7 ≤ o1 ∨ o1 + 7 ≤ o) (hi : c1 ≤ d0 ∨ d1 ≤ c0) (hb : b < c0 ∨ c1 ≤ b) : ObOne b o c0 c1 w' x := by
  obtain ⟨hs, vv0, vv1, m1, q0, q1, hc, l0, l1⟩ := h
  obtain ⟨h0, h1, h2, h3, h4, h5, h6⟩ := hc
  have e : ∀ t, t < 7 → w'.cell? ⟨b, o + t, none⟩ = w.cell? ⟨b, o + t, none⟩ := fun t ht => hn.cell _ (by omega)
  have e0 : w'.cell? ⟨b, o, none⟩ = w.cell? ⟨b, o, none⟩ := hn.cell _ (by omega)
  exact ⟨hs, vv0, vv1, m1, q0, q1, ⟨e0.trans h0, (e 1 (by omega)).trans h1, (e 2 (by omega)).trans h2, (e 3 (by omega)).trans h3, (e 4 (by omega)).trans h4, (e 5 (by omega)).trans h5, (e 6 (by omega)).trans h6⟩, l0.near hn (by omega) (by omega), l1.near hn (by omega) (by omega)⟩
theorem ObOne.touch {b o c0 c1 : Nat} {lo hi : Nat} {w w' : World} {x : Ob} (h : ObOne b o c0 c1 w x) (ht : Touch lo hi w w') (hlt : b < w.heap.size) (hb : b < lo ∨ hi ≤ b) (hi' : c1 ≤ lo ∨ hi ≤ c0) : ObOne b o c0 c1 w' x := by
  obtain ⟨hs, vv0, vv1, m1, q0, q1, hc, l0, l1⟩ := h
  obtain ⟨h0, h1, h2, h3, h4, h5, h6⟩ := hc
  exact ⟨hs, vv0, vv1, m1, q0, q1, ⟨(ht.cell (p := ⟨b, o, none⟩) hlt hb).trans h0, (ht.cell (p := ⟨b, o + 1, none⟩) hlt hb).trans h1, (ht.cell (p := ⟨b, o + 2, none⟩) hlt hb).trans h2, (ht.cell (p := ⟨b, o + 3, none⟩) hlt hb).trans h3, (ht.cell (p := ⟨b, o + 4, none⟩) hlt hb).trans h4, (ht.cell (p := ⟨b, o + 5, none⟩) hlt hb).trans h5, (ht.cell (p := ⟨b, o + 6, none⟩) hlt hb).trans h6⟩, l0.touch ht (by omega), l1.touch ht (by omega)⟩
theorem ObOne.below {b o c0 c1 : Nat}  {w w' : World} {x : Ob} (h : ObOne b o c0 c1 w x) (ht : Below w.heap.size w w') (hlt : b < w.heap.size) : ObOne b o c0 c1 w' x := by
  obtain ⟨hs, vv0, vv1, m1, q0, q1, hc, l0, l1⟩ := h
  obtain ⟨h0, h1, h2, h3, h4, h5, h6⟩ := hc
  exact ⟨hs, vv0, vv1, m1, q0, q1, ⟨(ht.cell (p := ⟨b, o, none⟩) hlt).trans h0, (ht.cell (p := ⟨b, o + 1, none⟩) hlt).trans h1, (ht.cell (p := ⟨b, o + 2, none⟩) hlt).trans h2, (ht.cell (p := ⟨b, o + 3, none⟩) hlt).trans h3, (ht.cell (p := ⟨b, o + 4, none⟩) hlt).trans h4, (ht.cell (p := ⟨b, o + 5, none⟩) hlt).trans h5, (ht.cell (p := ⟨b, o + 6, none⟩) hlt).trans h6⟩, l0.below ht, l1.below ht⟩
structure ObRow (lo hi : Nat) (w : World) (b off n : Nat) (c : Nat → Nat × Nat) (X : Nat → Ob) : Prop where
  lt : b < w.heap.size
  low : lo ≤ b
  bh : b < hi
  seg : ∀ i, i < n → lo ≤ (c i).1 ∧ (c i).2 ≤ hi ∧ (b < (c i).1 ∨ (c i).2 ≤ b)
  mono : ∀ i j, i < j → j < n → (c i).2 ≤ (c j).1
  frz : ∀ i, w.frozen? ⟨b, i, none⟩ = false
  row : ∀ i, i < n → ObOne b (off + i * 7) (c i).1 (c i).2 w (X i)
theorem ObRow.near {lo hi : Nat} {w w' : World} {b off n : Nat} {c : Nat → Nat × Nat} {X : Nat → Ob} (h : ObRow lo hi w b off n c X) {j : Nat} (hj : j < n) (hn : Near b (off + j * 7) 7 (c j).1 (c j).2 w w') {x : Ob} (hx : ObOne b (off + j * 7) (c j).1 (c j).2 w' x) : ObRow lo hi w' b off n c (fun i => if i = j then x else X i) := by
  refine ⟨Nat.lt_of_lt_of_le h.lt hn.size, h.low, h.bh, h.seg, h.mono, fun i => (hn.frz i).trans (h.frz i), fun i hi' => ?_⟩
  by_cases e : i = j
  · subst e; rw [if_pos rfl]; exact hx
  · rw [if_neg e]
    refine (h.row i hi').near hn (by omega) ?_ (h.seg i hi').2.2
    rcases Nat.lt_or_ge i j with hij | hij
    · exact Or.inl (h.mono i j hij hj)
    · exact Or.inr (h.mono j i (by omega) hi')
theorem ObRow.touch {lo hi lo' hi' : Nat} {w w' : World} {b off n : Nat} {c : Nat → Nat × Nat} {X : Nat → Ob} (h : ObRow lo hi w b off n c X) (ht : Touch lo' hi' w w') (ho : hi ≤ lo' ∨ hi' ≤ lo) : ObRow lo hi w' b off n c X := by
  have h1 := h.low
  have h2 := h.bh
  refine ⟨Nat.lt_of_lt_of_le h.lt ht.size, h.low, h.bh, h.seg, h.mono, fun i => (ht.frozen (p := ⟨b, i, none⟩) h.lt (by simp only []; omega)).trans (h.frz i), fun i hi' => ?_⟩
  have h5 := h.seg i hi'
  exact (h.row i hi').touch ht h.lt (by omega) (by omega)
theorem ObRow.below {lo hi : Nat} {w w' : World} {b off n : Nat} {c : Nat → Nat × Nat} {X : Nat → Ob} (h : ObRow lo hi w b off n c X) (ht : Below w.heap.size w w') : ObRow lo hi w' b off n c X :=
  ⟨Nat.lt_of_lt_of_le h.lt ht.size, h.low, h.bh, h.seg, h.mono, fun i => (ht.frozen (p := ⟨b, i, none⟩) h.lt).trans (h.frz i), fun i hi' => (h.row i hi').below ht h.lt⟩
theorem ObRow.to {lo hi : Nat} {w : World} {b off n : Nat} {c : Nat → Nat × Nat} {X Y : Nat → Ob} (h : ObRow lo hi w b off n c X) (e : ∀ i, i < n → X i = Y i) : ObRow lo hi w b off n c Y :=
  ⟨h.lt, h.low, h.bh, h.seg, h.mono, h.frz, fun i hi' => e i hi' ▸ h.row i hi'⟩
/-- a list of one's own -/
def ObsOwn (lo hi : Nat) (w : World) (v : Value) (Xl : List Ob) : Prop :=
  (∃ (a : Option Addr) (cap : Nat), v = .slice a 0 cap ∧ Xl = []) ∨
  ∃ (b off cap : Nat) (c : Nat → Nat × Nat) (X : Nat → Ob), v = .slice (some ⟨b, off, none⟩) Xl.length cap ∧ Xl ≠ [] ∧ Xl.length ≤ maxLen ∧ Xl.length ≤ cap ∧ (∀ i (h : i < Xl.length), X i = Xl[i]) ∧ ObRow lo hi w b off Xl.length c X
theorem ObsOwn.touch {lo hi lo' hi' : Nat} {w w' : World} {v : Value} {Xl : List Ob} (h : ObsOwn lo hi w v Xl) (ht : Touch lo' hi' w w') (ho : hi ≤ lo' ∨ hi' ≤ lo) : ObsOwn lo hi w' v Xl := by
  rcases h with h | ⟨b, off, cap, c, X, h1, h2, h3, h4, h5, h6⟩
  · exact Or.inl h
  · exact Or.inr ⟨b, off, cap, c, X, h1, h2, h3, h4, h5, h6.touch ht ho⟩
theorem ObsOwn.below {lo hi : Nat} {w w' : World} {v : Value} {Xl : List Ob} (h : ObsOwn lo hi w v Xl) (ht : Below w.heap.size w w') : ObsOwn lo hi w' v Xl := by
  rcases h with h | ⟨b, off, cap, c, X, h1, h2, h3, h4, h5, h6⟩
  · exact Or.inl h
  · exact Or.inr ⟨b, off, cap, c, X, h1, h2, h3, h4, h5, h6.below ht⟩
theorem ObsOwn.form {lo hi : Nat} {w : World} {v : Value} {Xl : List Ob} (h : ObsOwn lo hi w v Xl) : ∃ a cap, v = .slice a Xl.length cap := by
  rcases h with ⟨a, cap, h, rfl⟩ | ⟨b, off, cap, c, X, h1, _⟩
  · exact ⟨a, cap, h⟩
  · exact ⟨_, cap, h1⟩
theorem ObsOwn.at {lo hi : Nat} {w : World} {v : Value} {Xl : List Ob} (h : ObsOwn lo hi w v Xl) : ObsAt lo w v Xl := by
  rcases h with h | ⟨b, off, cap, c, X, h1, h2, h3, h4, h5, h6⟩
  · exact Or.inl h
  · refine Or.inr ⟨b, off, cap, h1, h2, h3, h6.lt, h6.low, h4, fun i hi' => ?_⟩
    have hr := h6.row i hi'
    have g0 := h6.seg i hi'
    rw [h5 i hi'] at hr
    obtain ⟨hs, vv0, vv1, m1, q0, q1, hc, l0, l1⟩ := hr
    exact ⟨hs, vv0, vv1, hc, (l0.in').mono (by omega), (l1.in').mono (by omega)⟩
structure ObSt (wr : World) (b o c0 c1 m1 : Nat) (vv0 vv1 : Value) (v : World) (y : Ob) : Prop where
  near : Near b o 7 c0 c1 wr v
  bc : b < c0 ∨ c1 ≤ b
  q0 : c0 ≤ m1
  q1 : m1 ≤ c1
  cells : ObCells v b o y vv0 vv1
  l0 : StrsOwn c0 m1 v vv0 y.vs
  l1 : StrsOwn m1 c1 v vv1 y.hs
  frz : ∀ i, v.frozen? ⟨b, i, none⟩ = false
  lt : b < v.heap.size
theorem ObSt.below {wr : World} {b o c0 c1 m1 : Nat} {vv0 vv1 : Value} {v v' : World} {y : Ob} (h : ObSt wr b o c0 c1 m1 vv0 vv1 v y) (hb : Below v.heap.size v v') : ObSt wr b o c0 c1 m1 vv0 vv1 v' y :=
  ⟨h.near.trans (Near.below hb h.lt), h.bc, h.q0, h.q1, h.cells.below hb h.lt, h.l0.below hb, h.l1.below hb, fun i => (hb.frozen (p := ⟨b, i, none⟩) h.lt).trans (h.frz i), Nat.lt_of_lt_of_le h.lt hb.size⟩
theorem ObSt.s0 {wr : World} {b o c0 c1 m1 : Nat} {vv0 vv1 : Value} {v : World} {y : Ob} (h : ObSt wr b o c0 c1 m1 vv0 vv1 v y) (u : ByteArray) : ObSt wr b o c0 c1 m1 vv0 vv1 (v.setCell ⟨b, o, none⟩ (.string u)) { y with kd := u } := by
  obtain ⟨h0, h1, h2, h3, h4, h5, h6⟩ := h.cells
  have ht : Touch b (b + 1) v (v.setCell ⟨b, o, none⟩ (.string u)) := Touch.setCell _ _ _ _ _ ⟨Nat.le_refl _, by simp only []; omega⟩
  have hbc := h.bc
  have hq0 := h.q0
  have hq1 := h.q1
  exact ⟨h.near.trans (Near.set _ _ _ _ _ _ _ _ (by omega) (by omega)), h.bc, h.q0, h.q1, ⟨World.cell?_setCell_same' _ _ _ (by rw [h0]; rfl), (cne (by omega)).trans h1, (cne (by omega)).trans h2, (cne (by omega)).trans h3, (cne (by omega)).trans h4, (cne (by omega)).trans h5, (cne (by omega)).trans h6⟩, h.l0.touch ht (by omega), h.l1.touch ht (by omega), fun i => by rw [World.frozen?_setCell]; exact h.frz i, by simpa [World.setCell] using h.lt⟩
theorem ObSt.s1 {wr : World} {b o c0 c1 m1 : Nat} {vv0 vv1 : Value} {v : World} {y : Ob} (h : ObSt wr b o c0 c1 m1 vv0 vv1 v y) (u : ByteArray) : ObSt wr b o c0 c1 m1 vv0 vv1 (v.setCell ⟨b, o + 1, none⟩ (.string u)) { y with nm := u } := by
  obtain ⟨h0, h1, h2, h3, h4, h5, h6⟩ := h.cells
  have ht : Touch b (b + 1) v (v.setCell ⟨b, o + 1, none⟩ (.string u)) := Touch.setCell _ _ _ _ _ ⟨Nat.le_refl _, by simp only []; omega⟩
  have hbc := h.bc
  have hq0 := h.q0
  have hq1 := h.q1
  exact ⟨h.near.trans (Near.set _ _ _ _ _ _ _ _ (by omega) (by omega)), h.bc, h.q0, h.q1, ⟨(cne (by omega)).trans h0, World.cell?_setCell_same' _ _ _ (by rw [h1]; rfl), (cne (by omega)).trans h2, (cne (by omega)).trans h3, (cne (by omega)).trans h4, (cne (by omega)).trans h5, (cne (by omega)).trans h6⟩, h.l0.touch ht (by omega), h.l1.touch ht (by omega), fun i => by rw [World.frozen?_setCell]; exact h.frz i, by simpa [World.setCell] using h.lt⟩
theorem ObSt.s2 {wr : World} {b o c0 c1 m1 : Nat} {vv0 vv1 : Value} {v : World} {y : Ob} (h : ObSt wr b o c0 c1 m1 vv0 vv1 v y) (u : ByteArray) : ObSt wr b o c0 c1 m1 vv0 vv1 (v.setCell ⟨b, o + 2, none⟩ (.string u)) { y with tm := u } := by
  obtain ⟨h0, h1, h2, h3, h4, h5, h6⟩ := h.cells
  have ht : Touch b (b + 1) v (v.setCell ⟨b, o + 2, none⟩ (.string u)) := Touch.setCell _ _ _ _ _ ⟨Nat.le_refl _, by simp only []; omega⟩
  have hbc := h.bc
  have hq0 := h.q0
  have hq1 := h.q1
  exact ⟨h.near.trans (Near.set _ _ _ _ _ _ _ _ (by omega) (by omega)), h.bc, h.q0, h.q1, ⟨(cne (by omega)).trans h0, (cne (by omega)).trans h1, World.cell?_setCell_same' _ _ _ (by rw [h2]; rfl), (cne (by omega)).trans h3, (cne (by omega)).trans h4, (cne (by omega)).trans h5, (cne (by omega)).trans h6⟩, h.l0.touch ht (by omega), h.l1.touch ht (by omega), fun i => by rw [World.frozen?_setCell]; exact h.frz i, by simpa [World.setCell] using h.lt⟩
theorem ObSt.s4 {wr : World} {b o c0 c1 m1 : Nat} {vv0 vv1 : Value} {v : World} {y : Ob} (h : ObSt wr b o c0 c1 m1 vv0 vv1 v y) (u : Bool) : ObSt wr b o c0 c1 m1 vv0 vv1 (v.setCell ⟨b, o + 4, none⟩ (.bool u)) { y with en := u } := by
  obtain ⟨h0, h1, h2, h3, h4, h5, h6⟩ := h.cells
  have ht : Touch b (b + 1) v (v.setCell ⟨b, o + 4, none⟩ (.bool u)) := Touch.setCell _ _ _ _ _ ⟨Nat.le_refl _, by simp only []; omega⟩
  have hbc := h.bc
  have hq0 := h.q0
  have hq1 := h.q1
  exact ⟨h.near.trans (Near.set _ _ _ _ _ _ _ _ (by omega) (by omega)), h.bc, h.q0, h.q1, ⟨(cne (by omega)).trans h0, (cne (by omega)).trans h1, (cne (by omega)).trans h2, (cne (by omega)).trans h3, World.cell?_setCell_same' _ _ _ (by rw [h4]; rfl), (cne (by omega)).trans h5, (cne (by omega)).trans h6⟩, h.l0.touch ht (by omega), h.l1.touch ht (by omega), fun i => by rw [World.frozen?_setCell]; exact h.frz i, by simpa [World.setCell] using h.lt⟩
theorem ObSt.s6 {wr : World} {b o c0 c1 m1 : Nat} {vv0 vv1 : Value} {v : World} {y : Ob} (h : ObSt wr b o c0 c1 m1 vv0 vv1 v y) (u : Int) : ObSt wr b o c0 c1 m1 vv0 vv1 (v.setCell ⟨b, o + 6, none⟩ (.int .i64 u)) { y with ver := u } := by
  obtain ⟨h0, h1, h2, h3, h4, h5, h6⟩ := h.cells
  have ht : Touch b (b + 1) v (v.setCell ⟨b, o + 6, none⟩ (.int .i64 u)) := Touch.setCell _ _ _ _ _ ⟨Nat.le_refl _, by simp only []; omega⟩
  have hbc := h.bc
  have hq0 := h.q0
  have hq1 := h.q1
  exact ⟨h.near.trans (Near.set _ _ _ _ _ _ _ _ (by omega) (by omega)), h.bc, h.q0, h.q1, ⟨(cne (by omega)).trans h0, (cne (by omega)).trans h1, (cne (by omega)).trans h2, (cne (by omega)).trans h3, (cne (by omega)).trans h4, (cne (by omega)).trans h5, World.cell?_setCell_same' _ _ _ (by rw [h6]; rfl)⟩, h.l0.touch ht (by omega), h.l1.touch ht (by omega), fun i => by rw [World.frozen?_setCell]; exact h.frz i, by simpa [World.setCell] using h.lt⟩
theorem ObSt.m0' {wr : World} {b o c0 c1 m1 : Nat} {vv0 vv1 : Value} {v v' : World} {y : Ob} (h : ObSt wr b o c0 c1 m1 vv0 vv1 v y) (ht : Touch c0 m1 v v') {L : List ByteArray} (hl : StrsOwn c0 m1 v' vv0 L) : ObSt wr b o c0 c1 m1 vv0 vv1 v' { y with vs := L } := by
  obtain ⟨h0, h1, h2, h3, h4, h5, h6⟩ := h.cells
  have hbc := h.bc
  have hq0 := h.q0
  have hq1 := h.q1
  have hlt := h.lt
  have e : ∀ i, v'.cell? ⟨b, i, none⟩ = v.cell? ⟨b, i, none⟩ := fun i => ht.cell (p := ⟨b, i, none⟩) h.lt (by simp only []; omega)
  exact ⟨h.near.trans (Near.touch ht h.lt (by omega) (by omega) (by omega)), h.bc, h.q0, h.q1, ⟨(e _).trans h0, (e _).trans h1, (e _).trans h2, (e _).trans h3, (e _).trans h4, (e _).trans h5, (e _).trans h6⟩, hl, h.l1.touch ht (by omega), fun i => (ht.frozen (p := ⟨b, i, none⟩) h.lt (by simp only []; omega)).trans (h.frz i), Nat.lt_of_lt_of_le h.lt ht.size⟩
end Go.Proofs.Ytmaagbnjpdijnaa

namespace Go.Proofs.Ytmaagbnjpdijnaa
open Go.RowKit Go.Deep

def TmSmall (_ : Tm) : Prop := True
def TmsSmall (Xl : List Tm) : Prop := Xl.length ≤ 1048576 ∧ ∀ i (h : i < Xl.length), TmSmall Xl[i]
def TmOne (b o _c0 _c1 : Nat) (w : World) (x : Tm) : Prop := TmSize x ∧ TmCells w b o x
theorem TmOne.near {b o c0 c1 o1 d0 d1 : Nat} {w w' : World} {x : Tm} (h : TmOne b o c0 c1 w x) (hn : Near b o1 2 d0 d1 w w') (ho : o + 2 ≤ o1 ∨ o1 + 2 ≤ o) (hi : c1 ≤ d0 ∨ d1 ≤ c0) (hb : b < c0 ∨ c1 ≤ b) : TmOne b o c0 c1 w' x := by
  obtain ⟨hs, hc⟩ := h
  obtain ⟨h0, h1⟩ := hc
  have e : ∀ t, t < 2 → w'.cell? ⟨b, o + t, none⟩ = w.cell? ⟨b, o + t, none⟩ := fun t ht => hn.cell _ (by omega)
  have e0 : w'.cell? ⟨b, o, none⟩ = w.cell? ⟨b, o, none⟩ := hn.cell _ (by omega)
  exact ⟨hs, ⟨e0.trans h0, (e 1 (by omega)).trans h1⟩⟩
theorem TmOne.touch {b o c0 c1 : Nat} {lo hi : Nat} {w w' : World} {x : Tm} (h : TmOne b o c0 c1 w x) (ht : Touch lo hi w w') (hlt : b < w.heap.size) (hb : b < lo ∨ hi ≤ b) (_hi : c1 ≤ lo ∨ hi ≤ c0) : TmOne b o c0 c1 w' x := by
  obtain ⟨hs, hc⟩ := h
  obtain ⟨h0, h1⟩ := hc
  exact ⟨hs, ⟨(ht.cell (p := ⟨b, o, none⟩) hlt hb).trans h0, (ht.cell (p := ⟨b, o + 1, none⟩) hlt hb).trans h1⟩⟩
theorem TmOne.below {b o c0 c1 : Nat}  {w w' : World} {x : Tm} (h : TmOne b o c0 c1 w x) (ht : Below w.heap.size w w') (hlt : b < w.heap.size) : TmOne b o c0 c1 w' x := by
  obtain ⟨hs, hc⟩ := h
  obtain ⟨h0, h1⟩ := hc
  exact ⟨hs, ⟨(ht.cell (p := ⟨b, o, none⟩) hlt).trans h0, (ht.cell (p := ⟨b, o + 1, none⟩) hlt).trans h1⟩⟩
structure TmRow (lo hi : Nat) (w : World) (b off n : Nat) (c : Nat → Nat) (X : Nat → Tm) : Prop where
  lt : b < w.heap.size
  low : lo ≤ b
  bc : b < c 0
  bh : b < hi
  mono : ∀ i, i < n → c i ≤ c (i + 1)
  top : c n ≤ hi
  frz : ∀ i, w.frozen? ⟨b, i, none⟩ = false
  row : ∀ i, i < n → TmOne b (off + i * 2) (c i) (c (i + 1)) w (X i)
theorem TmRow.le {lo hi : Nat} {w : World} {b off n : Nat} {c : Nat → Nat} {X : Nat → Tm} (h : TmRow lo hi w b off n c X) {i : Nat} : ∀ {j : Nat}, i ≤ j → j ≤ n → c i ≤ c j := by
  intro j
  induction j with
  | zero => intro hij _; have : i = 0 := by omega
            subst this; exact Nat.le_refl _
  | succ j ih =>
    intro hij hjn
    by_cases e : i = j + 1
    · subst e; exact Nat.le_refl _
    · exact Nat.le_trans (ih (by omega) (by omega)) (h.mono j (by omega))
theorem TmRow.near {lo hi : Nat} {w w' : World} {b off n : Nat} {c : Nat → Nat} {X : Nat → Tm} (h : TmRow lo hi w b off n c X) {j : Nat} (hj : j < n) (hn : Near b (off + j * 2) 2 (c j) (c (j + 1)) w w') {x : Tm} (hx : TmOne b (off + j * 2) (c j) (c (j + 1)) w' x) : TmRow lo hi w' b off n c (fun i => if i = j then x else X i) := by
  refine ⟨Nat.lt_of_lt_of_le h.lt hn.size, h.low, h.bc, h.bh, h.mono, h.top, fun i => (hn.frz i).trans (h.frz i), fun i hi' => ?_⟩
  by_cases e : i = j
  · subst e; rw [if_pos rfl]; exact hx
  · rw [if_neg e]
    have h0 := h.le (Nat.zero_le i) (by omega)
    have hbc := h.bc
    refine (h.row i hi').near hn (by omega) ?_ (by omega)
    rcases Nat.lt_or_ge i j with hij | hij
    · exact Or.inl (h.le (by omega) (by omega))
    · exact Or.inr (h.le (by omega) (by omega))
theorem TmRow.touch {lo hi lo' hi' : Nat} {w w' : World} {b off n : Nat} {c : Nat → Nat} {X : Nat → Tm} (h : TmRow lo hi w b off n c X) (ht : Touch lo' hi' w w') (ho : hi ≤ lo' ∨ hi' ≤ lo) : TmRow lo hi w' b off n c X := by
  have h1 := h.low
  have h2 := h.bh
  have h3 := h.top
  have h4 := h.bc
  refine ⟨Nat.lt_of_lt_of_le h.lt ht.size, h.low, h.bc, h.bh, h.mono, h.top, fun i => (ht.frozen (p := ⟨b, i, none⟩) h.lt (by simp only []; omega)).trans (h.frz i), fun i hi' => ?_⟩
  have h5 := h.le (Nat.zero_le i) (by omega)
  have h6 := h.le (i := i + 1) (j := n) (by omega) (Nat.le_refl _)
  exact (h.row i hi').touch ht h.lt (by omega) (by omega)
theorem TmRow.below {lo hi : Nat} {w w' : World} {b off n : Nat} {c : Nat → Nat} {X : Nat → Tm} (h : TmRow lo hi w b off n c X) (ht : Below w.heap.size w w') : TmRow lo hi w' b off n c X :=
  ⟨Nat.lt_of_lt_of_le h.lt ht.size, h.low, h.bc, h.bh, h.mono, h.top, fun i => (ht.frozen (p := ⟨b, i, none⟩) h.lt).trans (h.frz i), fun i hi' => (h.row i hi').below ht h.lt⟩
theorem TmRow.to {lo hi : Nat} {w : World} {b off n : Nat} {c : Nat → Nat} {X Y : Nat → Tm} (h : TmRow lo hi w b off n c X) (e : ∀ i, i < n → X i = Y i) : TmRow lo hi w b off n c Y :=
  ⟨h.lt, h.low, h.bc, h.bh, h.mono, h.top, h.frz, fun i hi' => e i hi' ▸ h.row i hi'⟩
/-- a list of one's own -/
def TmsOwn (lo hi : Nat) (w : World) (v : Value) (Xl : List Tm) : Prop :=
  (∃ (a : Option Addr) (cap : Nat), v = .slice a 0 cap ∧ Xl = []) ∨
  ∃ (b off cap : Nat) (c : Nat → Nat) (X : Nat → Tm), v = .slice (some ⟨b, off, none⟩) Xl.length cap ∧ Xl ≠ [] ∧ Xl.length ≤ maxLen ∧ Xl.length ≤ cap ∧ (∀ i (h : i < Xl.length), X i = Xl[i]) ∧ TmRow lo hi w b off Xl.length c X
theorem TmsOwn.touch {lo hi lo' hi' : Nat} {w w' : World} {v : Value} {Xl : List Tm} (h : TmsOwn lo hi w v Xl) (ht : Touch lo' hi' w w') (ho : hi ≤ lo' ∨ hi' ≤ lo) : TmsOwn lo hi w' v Xl := by
  rcases h with h | ⟨b, off, cap, c, X, h1, h2, h3, h4, h5, h6⟩
  · exact Or.inl h
  · exact Or.inr ⟨b, off, cap, c, X, h1, h2, h3, h4, h5, h6.touch ht ho⟩
theorem TmsOwn.below {lo hi : Nat} {w w' : World} {v : Value} {Xl : List Tm} (h : TmsOwn lo hi w v Xl) (ht : Below w.heap.size w w') : TmsOwn lo hi w' v Xl := by
  rcases h with h | ⟨b, off, cap, c, X, h1, h2, h3, h4, h5, h6⟩
  · exact Or.inl h
  · exact Or.inr ⟨b, off, cap, c, X, h1, h2, h3, h4, h5, h6.below ht⟩
theorem TmsOwn.form {lo hi : Nat} {w : World} {v : Value} {Xl : List Tm} (h : TmsOwn lo hi w v Xl) : ∃ a cap, v = .slice a Xl.length cap := by
  rcases h with ⟨a, cap, h, rfl⟩ | ⟨b, off, cap, c, X, h1, _⟩
  · exact ⟨a, cap, h⟩
  · exact ⟨_, cap, h1⟩
theorem TmsOwn.at {lo hi : Nat} {w : World} {v : Value} {Xl : List Tm} (h : TmsOwn lo hi w v Xl) : TmsAt lo w v Xl := by
  rcases h with h | ⟨b, off, cap, c, X, h1, h2, h3, h4, h5, h6⟩
  · exact Or.inl h
  · refine Or.inr ⟨b, off, cap, h1, h2, h3, h6.lt, h6.low, h4, fun i hi' => ?_⟩
    have hr := h6.row i hi'
    rw [h5 i hi'] at hr
    obtain ⟨hs, hc⟩ := hr
    exact ⟨hs, hc⟩
/-- marks from k on -/
def mkTm (k : Int) (_x : Tm) : Tm := ⟨mtB (k), mtB (k + 1)⟩
def wdTm (_x : Tm) : Nat := 2
def posTm (Xl : List Tm) (i : Nat) : Nat := ((Xl.take i).map wdTm).sum
def mkTms (k : Int) (Xl : List Tm) : List Tm := Xl.mapIdx (fun i x => mkTm (k + (posTm Xl i : Int)) x)
theorem mkTms_len (k : Int) (Xl : List Tm) : (mkTms k Xl).length = Xl.length := by unfold mkTms; simp
theorem mkTms_get (k : Int) (Xl : List Tm) (i : Nat) (h : i < (mkTms k Xl).length) (h' : i < Xl.length) : (mkTms k Xl)[i] = mkTm (k + (posTm Xl i : Int)) Xl[i] := List.getElem_mapIdx (f := fun i x => mkTm (k + (posTm Xl i : Int)) x) (h := h)
theorem posTm_succ {Xl : List Tm} {i : Nat} (h : i < Xl.length) : posTm Xl (i + 1) = posTm Xl i + wdTm Xl[i] := by
  unfold posTm
  rw [List.take_succ_eq_append_getElem h, List.map_append, List.sum_append]
  simp
theorem posTm_le {Xl : List Tm} (hn : TmsSmall Xl) : ∀ {i : Nat}, i ≤ Xl.length → posTm Xl i ≤ i * 3000000 := by
  intro i
  induction i with
  | zero => intro _; simp [posTm]
  | succ i ih =>
    intro hi'
    have h1 := ih (by omega)
    rw [posTm_succ (by omega)]
    have h2 : wdTm Xl[i] ≤ 3000000 := by
      have hsm := hn.2 i (by omega)
      unfold TmSmall at hsm
      unfold wdTm
      omega
    omega
structure TmSt (wr : World) (b o c0 c1 : Nat) (v : World) (y : Tm) : Prop where
  near : Near b o 2 c0 c1 wr v
  bc : b < c0
  cells : TmCells v b o y
  frz : ∀ i, v.frozen? ⟨b, i, none⟩ = false
  lt : b < v.heap.size
theorem TmSt.below {wr : World} {b o c0 c1 : Nat} {v v' : World} {y : Tm} (h : TmSt wr b o c0 c1 v y) (hb : Below v.heap.size v v') : TmSt wr b o c0 c1 v' y :=
  ⟨h.near.trans (Near.below hb h.lt), h.bc, h.cells.below hb h.lt, fun i => (hb.frozen (p := ⟨b, i, none⟩) h.lt).trans (h.frz i), Nat.lt_of_lt_of_le h.lt hb.size⟩
theorem TmSt.s0 {wr : World} {b o c0 c1 : Nat} {v : World} {y : Tm} (h : TmSt wr b o c0 c1 v y) (u : ByteArray) : TmSt wr b o c0 c1 (v.setCell ⟨b, o, none⟩ (.string u)) { y with nm := u } := by
  obtain ⟨h0, h1⟩ := h.cells
  have ht : Touch b (b + 1) v (v.setCell ⟨b, o, none⟩ (.string u)) := Touch.setCell _ _ _ _ _ ⟨Nat.le_refl _, by simp only []; omega⟩
  have hbc := h.bc
  exact ⟨h.near.trans (Near.set _ _ _ _ _ _ _ _ (by omega) (by omega)), h.bc, ⟨World.cell?_setCell_same' _ _ _ (by rw [h0]; rfl), (cne (by omega)).trans h1⟩, fun i => by rw [World.frozen?_setCell]; exact h.frz i, by simpa [World.setCell] using h.lt⟩
theorem TmSt.s1 {wr : World} {b o c0 c1 : Nat} {v : World} {y : Tm} (h : TmSt wr b o c0 c1 v y) (u : ByteArray) : TmSt wr b o c0 c1 (v.setCell ⟨b, o + 1, none⟩ (.string u)) { y with ov := u } := by
  obtain ⟨h0, h1⟩ := h.cells
  have ht : Touch b (b + 1) v (v.setCell ⟨b, o + 1, none⟩ (.string u)) := Touch.setCell _ _ _ _ _ ⟨Nat.le_refl _, by simp only []; omega⟩
  have hbc := h.bc
  exact ⟨h.near.trans (Near.set _ _ _ _ _ _ _ _ (by omega) (by omega)), h.bc, ⟨(cne (by omega)).trans h0, World.cell?_setCell_same' _ _ _ (by rw [h1]; rfl)⟩, fun i => by rw [World.frozen?_setCell]; exact h.frz i, by simpa [World.setCell] using h.lt⟩
end Go.Proofs.Ytmaagbnjpdijnaa

