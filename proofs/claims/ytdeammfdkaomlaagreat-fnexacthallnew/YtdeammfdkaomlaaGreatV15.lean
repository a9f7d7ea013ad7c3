import Derived.Test.YtdeammfdkaomlaaGreatV13
import Derived.Test.YtdeammfdkaomlaaGreatV14
namespace Go.Proofs.YtdeammfdkaomlaaGreat
open Go.RowKit Go.Deep

/-- the worlds in which memory has only been added to -/
abbrev Upo (W0 : World) : World → Prop := fun W => Below W0.heap.size W0 W
theorem Upo.cell {W0 : World} (X : In (Upo W0)) {p : Addr} {v : Value} (h : W0.cell? p = some v) : X.w.cell? p = some v :=
  (Below.cell (show Below W0.heap.size W0 X.w from X.h) (World.block_lt_of_cell? W0 _ h)).trans h
theorem Upo.next {W0 : World} (X : In (Upo W0)) {W' : World} (h : Below X.w.heap.size X.w W') : ∃ Y : In (Upo W0), W' = Y.w :=
  ⟨⟨W', X.h.trans (h.mono X.h.size)⟩, rfl⟩
/-! books of one's own: only some cells of a block, and the blocks of an interval, may have turned -/
structure Near (b o n lo hi : Nat) (w w' : World) : Prop where
  os : w'.os = w.os
  tape : w'.tape = w.tape
  output : w'.output = w.output
  size : w.heap.size ≤ w'.heap.size
  block : ∀ k, k < w.heap.size → k ≠ b → (k < lo ∨ hi ≤ k) → w'.heap[k]? = w.heap[k]?
  cell : ∀ i, (i < o ∨ o + n ≤ i) → w'.cell? ⟨b, i, none⟩ = w.cell? ⟨b, i, none⟩
  frz : ∀ i, w'.frozen? ⟨b, i, none⟩ = w.frozen? ⟨b, i, none⟩
theorem Near.refl (b o n lo hi : Nat) (w : World) : Near b o n lo hi w w := ⟨rfl, rfl, rfl, Nat.le_refl _, fun _ _ _ _ => rfl, fun _ _ => rfl, fun _ => rfl⟩
theorem Near.trans {b o n lo hi : Nat} {u v w : World} (h : Near b o n lo hi u v) (k : Near b o n lo hi v w) : Near b o n lo hi u w :=
  ⟨k.os.trans h.os, k.tape.trans h.tape, k.output.trans h.output, Nat.le_trans h.size k.size, fun i hi' hb ho => (k.block i (Nat.lt_of_lt_of_le hi' h.size) hb ho).trans (h.block i hi' hb ho), fun i hi' => (k.cell i hi').trans (h.cell i hi'), fun i => (k.frz i).trans (h.frz i)⟩
theorem Near.below {b o n lo hi : Nat} {w w' : World} (h : Below w.heap.size w w') (hb : b < w.heap.size) : Near b o n lo hi w w' :=
  ⟨h.os, h.tape, h.output, h.size, fun k hk _ _ => h.block k hk, fun i _ => h.cell (p := ⟨b, i, none⟩) hb, fun i => h.frozen (p := ⟨b, i, none⟩) hb⟩
theorem Near.touch {b o n lo hi lo' hi' : Nat} {w w' : World} (h : Touch lo' hi' w w') (hb : b < w.heap.size) (h1 : lo ≤ lo') (h2 : hi' ≤ hi) (hx : b < lo' ∨ hi' ≤ b) : Near b o n lo hi w w' :=
  ⟨h.os, h.tape, h.output, h.size, fun k hk _ ho => h.block k hk (by omega), fun i _ => h.cell (p := ⟨b, i, none⟩) hb hx, fun i => h.frozen (p := ⟨b, i, none⟩) hb hx⟩
theorem Near.set (b o n lo hi : Nat) (w : World) (i : Nat) (u : Value) (h1 : o ≤ i) (h2 : i < o + n) : Near b o n lo hi w (w.setCell ⟨b, i, none⟩ u) :=
  ⟨rfl, rfl, rfl, by simp [World.setCell], fun k _ hb _ => Below.heap_setCell _ _ _ _ hb, fun j hj => by apply World.cell?_setCell_other; simp only [ne_eq, Addr.mk.injEq, not_and]; omega, fun j => by rw [World.frozen?_setCell]⟩
theorem Near.wide {b o n lo hi lo' hi' : Nat} {w w' : World} (h : Near b o n lo hi w w') (_hb : b < w.heap.size) (h1 : lo' ≤ lo) (h2 : hi ≤ hi') (hx : lo' ≤ b ∧ b < hi') : Touch lo' hi' w w' :=
  ⟨h.os, h.tape, h.output, h.size, fun k hk ho => h.block k hk (by omega) (by omega)⟩
theorem Near.out {b o n lo hi : Nat} {w w' : World} (h : Near b o n lo hi w w') {p : Addr} (hp : p.block < w.heap.size) (hb : p.block ≠ b) (ho : p.block < lo ∨ hi ≤ p.block) : w'.cell? p = w.cell? p ∧ w'.frozen? p = w.frozen? p :=
  ⟨World.cell?_of_block (w := w) (h.block p.block hp hb ho), World.frozen?_of_block (w := w) (h.block p.block hp hb ho)⟩
theorem StrsOwn.near {lo hi lo' hi' b o n : Nat} {w w' : World} {v : Value} {L : List ByteArray} (h : StrsOwn lo hi w v L) (ht : Near b o n lo' hi' w w') (ho : hi ≤ lo' ∨ hi' ≤ lo) (hb : b < lo ∨ hi ≤ b) : StrsOwn lo hi w' v L := by
  rcases h with h | ⟨g, off, cap, h1, h2, h3, h4, h5, h6, h7, h8, h9⟩
  · exact Or.inl h
  · exact Or.inr ⟨g, off, cap, h1, h2, h3, Nat.lt_of_lt_of_le h4 ht.size, fun i hi' => ((ht.out (p := ⟨g, off + i, none⟩) h4 (by simp only [ne_eq]; omega) (by simp only []; omega)).1).trans (h5 i hi'), h6, h7, h8, fun i => ((ht.out (p := ⟨g, off + i, none⟩) h4 (by simp only [ne_eq]; omega) (by simp only []; omega)).2).trans (h9 i)⟩
theorem StrsOwn.in' {lo hi : Nat} {w : World} {v : Value} {L : List ByteArray} (h : StrsOwn lo hi w v L) : StrsIn lo w v L := by
  rcases h with h | ⟨g, off, cap, h1, h2, h3, h4, h5, h6, h7, h8, h9⟩
  · exact Or.inl h
  · exact Or.inr ⟨g, off, cap, h1, h2, h3, h4, h5, h6, h7⟩
theorem cne {v : World} {b i j : Nat} {u : Value} (h : i ≠ j) : (v.setCell ⟨b, i, none⟩ u).cell? ⟨b, j, none⟩ = v.cell? ⟨b, j, none⟩ := by
  apply World.cell?_setCell_other
  simp only [ne_eq, Addr.mk.injEq, not_and]
  omega
theorem Touch.setB (B : Nat) (w : World) (i : Nat) (u : Value) : Touch B (B + 1) w (w.setCell ⟨B, i, none⟩ u) := Touch.setCell _ _ _ _ _ ⟨Nat.le_refl _, Nat.lt_succ_self _⟩
/-- ints of one's own -/
def IntsOwn (lo hi : Nat) (w : World) (v : Value) (L : List Int) : Prop :=
  (∃ (a : Option Addr) (cap : Nat), v = .slice a 0 cap ∧ L = []) ∨
  ∃ (b off cap : Nat), v = .slice (some ⟨b, off, none⟩) L.length cap ∧ L ≠ [] ∧ L.length ≤ maxLen ∧ b < w.heap.size ∧
    (∀ i (h : i < L.length), w.cell? ⟨b, off + i, none⟩ = some (.int .i64 L[i])) ∧ lo ≤ b ∧ b < hi ∧ ∀ i, w.frozen? ⟨b, off + i, none⟩ = false
theorem IntsOwn.near {lo hi lo' hi' b o n : Nat} {w w' : World} {v : Value} {L : List Int} (h : IntsOwn lo hi w v L) (ht : Near b o n lo' hi' w w') (ho : hi ≤ lo' ∨ hi' ≤ lo) (hb : b < lo ∨ hi ≤ b) : IntsOwn lo hi w' v L := by
  rcases h with h | ⟨g, off, cap, h1, h2, h3, h4, h5, h7, h8, h9⟩
  · exact Or.inl h
  · exact Or.inr ⟨g, off, cap, h1, h2, h3, Nat.lt_of_lt_of_le h4 ht.size, fun i hi' => ((ht.out (p := ⟨g, off + i, none⟩) h4 (by simp only [ne_eq]; omega) (by simp only []; omega)).1).trans (h5 i hi'), h7, h8, fun i => ((ht.out (p := ⟨g, off + i, none⟩) h4 (by simp only [ne_eq]; omega) (by simp only []; omega)).2).trans (h9 i)⟩
theorem IntsOwn.below {lo hi : Nat} {w w' : World} {v : Value} {L : List Int} (h : IntsOwn lo hi w v L) (hb : Below w.heap.size w w') : IntsOwn lo hi w' v L := by
  rcases h with h | ⟨g, off, cap, h1, h2, h3, h4, h5, h7, h8, h9⟩
  · exact Or.inl h
  · exact Or.inr ⟨g, off, cap, h1, h2, h3, Nat.lt_of_lt_of_le h4 hb.size, fun i hi' => (hb.cell (p := ⟨g, off + i, none⟩) h4).trans (h5 i hi'), h7, h8, fun i => (hb.frozen (p := ⟨g, off + i, none⟩) h4).trans (h9 i)⟩
theorem IntsOwn.touch {lo hi lo' hi' : Nat} {w w' : World} {v : Value} {L : List Int} (h : IntsOwn lo hi w v L) (ht : Touch lo' hi' w w') (ho : hi ≤ lo' ∨ hi' ≤ lo) : IntsOwn lo hi w' v L := by
  rcases h with h | ⟨b, off, cap, h1, h2, h3, h4, h5, h7, h8, h9⟩
  · exact Or.inl h
  · exact Or.inr ⟨b, off, cap, h1, h2, h3, Nat.lt_of_lt_of_le h4 ht.size, fun i hi' => (ht.cell (p := ⟨b, off + i, none⟩) h4 (by simp only []; omega)).trans (h5 i hi'), h7, h8, fun i => (ht.frozen (p := ⟨b, off + i, none⟩) h4 (by simp only []; omega)).trans (h9 i)⟩
theorem IntsOwn.in' {lo hi : Nat} {w : World} {v : Value} {L : List Int} (h : IntsOwn lo hi w v L) : IntsIn lo w v L := by
  rcases h with h | ⟨g, off, cap, h1, h2, h3, h4, h5, h7, h8, h9⟩
  · exact Or.inl h
  · exact Or.inr ⟨g, off, cap, h1, h2, h3, h4, h7, h5⟩
theorem IntsOwn.wide {lo hi lo' hi' : Nat} {w : World} {v : Value} {L : List Int} (h : IntsOwn lo hi w v L) (h1 : lo' ≤ lo) (h2 : hi ≤ hi') : IntsOwn lo' hi' w v L := by
  rcases h with h | ⟨g, off, cap, e1, e2, e3, e4, e5, e7, e8, e9⟩
  · exact Or.inl h
  · exact Or.inr ⟨g, off, cap, e1, e2, e3, e4, e5, by omega, by omega, e9⟩
theorem IntsOwn.form {lo hi : Nat} {w : World} {v : Value} {L : List Int} (h : IntsOwn lo hi w v L) : ∃ a cap, v = .slice a L.length cap := by
  rcases h with ⟨a, cap, h, rfl⟩ | ⟨b, off, cap, h, _⟩
  · exact ⟨a, cap, h⟩
  · exact ⟨_, cap, h⟩
def imarks (k : Int) (n : Nat) : List Int := (List.range n).map fun (i : Nat) => k + (i : Int)
theorem imarks_len (k : Int) (n : Nat) : (imarks k n).length = n := by simp [imarks]
theorem imarks_get (k : Int) (n i : Nat) (h : i < (imarks k n).length) : (imarks k n)[i] = k + i := by simp [imarks]

set_option maxHeartbeats 1000000 in
theorem markInts_any (lo hi : Nat) (v : Value) (L : List Int) (k : Int) (w : World) (hv : IntsOwn lo hi w v L) (h0 : 0 ≤ k) (hk : k + L.length ≤ 4000000000000000000) :
    Calls Tryz.prog 81 #[v, .int .i64 k] w fun e w' => e = .returned (.int .i64 (k + L.length)) ∧ Touch lo hi w w' ∧ IntsOwn lo hi w' v (imarks k L.length) := by
  rcases hv with ⟨a, cap, rfl, rfl⟩ | ⟨b, off, cap, rfl, hne, hm, hbw, hc, hlo, hhi, hfr⟩
  · go_enter Tryz.func81, Tryz.ntmps81
    go_wp2
    go_loop [5, 1] (fun i q => i = .int .i64 0 ∧ q = .int .i64 k) (fun _ _ => 0)
    case atStart => exact ⟨rfl, rfl⟩
    case round =>
      obtain ⟨rfl, rfl⟩ := hrel
      go_wp2
      go_ret
      exact ⟨by simp, Touch.refl _ _ _, Or.inl ⟨_, _, rfl, rfl⟩⟩
  · unfold maxLen at hm
    go_enter Tryz.func81, Tryz.ntmps81
    go_wp2
    go_loopw [5, 1] (fun i q wr => ∃ j : Nat, i = .int .i64 j ∧ q = .int .i64 (k + j) ∧ j ≤ L.length ∧ Touch lo hi w wr ∧ (∀ i, i < j → wr.cell? ⟨b, off + i, none⟩ = some (.int .i64 (k + i))) ∧ (∀ i (h : i < L.length), j ≤ i → wr.cell? ⟨b, off + i, none⟩ = some (.int .i64 L[i])) ∧ ∀ i, wr.frozen? ⟨b, off + i, none⟩ = false) (fun i _ _ => L.length - (intOf i).toNat)
    case atStart => exact ⟨0, rfl, by simp, by omega, Touch.refl _ _ _, fun i h => by omega, fun i h _ => hc i h, hfr⟩
    case round =>
      obtain ⟨j, rfl, rfl, hj, ht, hA, hB, hF⟩ := hrel
      have HT := hide ht
      have HA := hide hA
      have HBB := hide hB
      have HF := hide hF
      clear ht hA hB hF
      by_cases hlt : j < L.length
      · have hcj : wr.cell? ⟨b, off + j, none⟩ = some (.int .i64 L[j]) := HBB.out j hlt (Nat.le_refl _)
        have hfj : wr.frozen? ⟨b, off + j, none⟩ = false := HF.out j
        go_wp2
        go_roundw
        case rel =>
          refine ⟨j + 1, by go_num, by go_num, by omega, HT.out.trans (Touch.setCell _ _ _ _ _ ⟨hlo, hhi⟩), fun i hi' => ?_, fun i h hi' => ?_, fun i => ?_⟩
          · by_cases e : i = j
            · subst e; exact World.cell?_setCell_same' _ _ _ (by rw [hcj]; rfl)
            · rw [show (wr.setCell ⟨b, off + j, none⟩ (.int .i64 (k + j))).cell? ⟨b, off + i, none⟩ = wr.cell? ⟨b, off + i, none⟩ from by apply World.cell?_setCell_other; simp only [ne_eq, Addr.mk.injEq, not_and]; omega]
              exact HA.out i (by omega)
          · rw [show (wr.setCell ⟨b, off + j, none⟩ (.int .i64 (k + j))).cell? ⟨b, off + i, none⟩ = wr.cell? ⟨b, off + i, none⟩ from by apply World.cell?_setCell_other; simp only [ne_eq, Addr.mk.injEq, not_and]; omega]
            exact HBB.out i h (by omega)
          · rw [World.frozen?_setCell]
            exact HF.out i
        case measure => simp [intOf]; omega
      · have e : j = L.length := by omega
        subst e
        go_wp2
        go_ret
        refine ⟨rfl, HT.out, Or.inr ⟨b, off, cap, by rw [imarks_len], ?_, by rw [imarks_len]; unfold maxLen; omega, Nat.lt_of_lt_of_le hbw HT.out.size, fun i h => ?_, hlo, hhi, HF.out⟩⟩
        · intro e; have := congrArg List.length e; rw [imarks_len] at this; simp at this; exact hne this
        · rw [imarks_get]; exact HA.out i (by rw [imarks_len] at h; exact h)

set_option maxHeartbeats 1000000 in
theorem heldInts_any (lo : Nat) (v : Value) (n : Nat) (k : Int) (w : World) (hv : IntsIn lo w v (imarks k n)) (h0 : 0 ≤ k) (hk : k + n ≤ 4000000000000000000) :
    Calls Tryz.prog 87 #[v, .int .i64 k] w fun e w' => e = .returned (.int .i64 (k + n)) ∧ Below w.heap.size w w' := by
  have HV := hide hv
  obtain ⟨a, cap, rfl⟩ := hv.form
  clear hv
  rw [imarks_len] at HV
  rw [imarks_len]
  go_enter Tryz.func87, Tryz.ntmps87
  go_wp2
  go_loop [5, 1] (fun i q => ∃ j : Nat, i = .int .i64 j ∧ q = .int .i64 (k + j) ∧ j ≤ n) (fun i _ => n - (intOf i).toNat)
  case atStart => exact ⟨0, rfl, by simp, by omega⟩
  case round =>
    obtain ⟨j, rfl, rfl, hj⟩ := hrel
    by_cases hlt : j < n
    · obtain ⟨b, off, rfl, hbw, hc⟩ := HV.out.full' (by rw [imarks_len]; omega)
      have hcj : w.cell? ⟨b, off + j, none⟩ = some (.int .i64 (k + j)) := by rw [hc j (by rw [imarks_len]; omega), imarks_get]
      clear hc
      go_wp2
      go_round
      case rel => exact ⟨j + 1, by go_num, by go_num, by omega⟩
      case measure => simp [intOf]; omega
    · have e : j = n := by omega
      subst e
      go_wp2
      go_ret
      exact ⟨rfl, Below.refl _ _⟩
end Go.Proofs.YtdeammfdkaomlaaGreat
