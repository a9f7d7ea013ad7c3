import Derived.Test.YtmaagbnjpdijnaaYM1
import Derived.Deep.RegionWith
import Derived.Test.YtmaagbnjpdijnaaYA1
namespace Go.Proofs.Ytmaagbnjpdijnaa
open Go.RowKit Go.Deep

/-- ONLY THE BLOCKS FROM lo TO hi MAY HAVE TURNED; new ones may have come. -/
structure Touch (lo hi : Nat) (w w' : World) : Prop where
  os : w'.os = w.os
  tape : w'.tape = w.tape
  output : w'.output = w.output
  size : w.heap.size ≤ w'.heap.size
  block : ∀ k, k < w.heap.size → (k < lo ∨ hi ≤ k) → w'.heap[k]? = w.heap[k]?
theorem Touch.refl (lo hi : Nat) (w : World) : Touch lo hi w w := ⟨rfl, rfl, rfl, Nat.le_refl _, fun _ _ _ => rfl⟩
theorem Touch.trans {lo hi : Nat} {a b c : World} (h : Touch lo hi a b) (k : Touch lo hi b c) : Touch lo hi a c :=
  ⟨k.os.trans h.os, k.tape.trans h.tape, k.output.trans h.output, Nat.le_trans h.size k.size, fun i hi' ho => (k.block i (Nat.lt_of_lt_of_le hi' h.size) ho).trans (h.block i hi' ho)⟩
theorem Touch.below {lo hi : Nat} {a b : World} (h : Below a.heap.size a b) : Touch lo hi a b := ⟨h.os, h.tape, h.output, h.size, fun k hk _ => h.block k hk⟩
theorem Touch.setCell (lo hi : Nat) (w : World) (p : Addr) (u : Value) (h : lo ≤ p.block ∧ p.block < hi) : Touch lo hi w (w.setCell p u) :=
  ⟨rfl, rfl, rfl, by simp [World.setCell], fun k _ ho => Below.heap_setCell _ _ _ _ (by omega)⟩
theorem Touch.cell {lo hi : Nat} {w w' : World} (h : Touch lo hi w w') {p : Addr} (hp : p.block < w.heap.size) (ho : p.block < lo ∨ hi ≤ p.block) : w'.cell? p = w.cell? p := World.cell?_of_block (w := w) (h.block p.block hp ho)
theorem Touch.frozen {lo hi : Nat} {w w' : World} (h : Touch lo hi w w') {p : Addr} (hp : p.block < w.heap.size) (ho : p.block < lo ∨ hi ≤ p.block) : w'.frozen? p = w.frozen? p := World.frozen?_of_block (w := w) (h.block p.block hp ho)
theorem Touch.wide {lo hi lo' hi' : Nat} {a b : World} (h : Touch lo hi a b) (h1 : lo' ≤ lo) (h2 : hi ≤ hi') : Touch lo' hi' a b := ⟨h.os, h.tape, h.output, h.size, fun k hk ho => h.block k hk (by omega)⟩
/-- what was touched from lo on leaves all below as it was -/
theorem Touch.under {lo hi : Nat} {a b : World} (h : Touch lo hi a b) (hl : lo ≤ a.heap.size) : Below lo a b := ⟨h.os, h.tape, h.output, h.size, fun k hk => h.block k (by omega) (Or.inl hk)⟩

/-- A []string OF ONE's OWN: its cells lie in a block from lo to hi, and may be written. -/
def StrsOwn (lo hi : Nat) (w : World) (v : Value) (L : List ByteArray) : Prop :=
  (∃ (a : Option Addr) (cap : Nat), v = .slice a 0 cap ∧ L = []) ∨
  ∃ (b off cap : Nat), v = .slice (some ⟨b, off, none⟩) L.length cap ∧ L ≠ [] ∧ L.length ≤ maxLen ∧ b < w.heap.size ∧
    (∀ i (h : i < L.length), w.cell? ⟨b, off + i, none⟩ = some (.string L[i])) ∧ (∀ s ∈ L, s.size ≤ maxLen) ∧ lo ≤ b ∧ b < hi ∧ ∀ i, w.frozen? ⟨b, off + i, none⟩ = false
theorem StrsOwn.at {lo hi : Nat} {w : World} {v : Value} {L : List ByteArray} (h : StrsOwn lo hi w v L) : StrsAt w v L := by
  rcases h with h | ⟨b, off, cap, h1, h2, h3, h4, h5, h6, _⟩
  · exact Or.inl h
  · exact Or.inr ⟨b, off, cap, h1, h2, h3, h4, h5, h6⟩
theorem StrsOwn.touch {lo hi lo' hi' : Nat} {w w' : World} {v : Value} {L : List ByteArray} (h : StrsOwn lo hi w v L) (ht : Touch lo' hi' w w') (ho : hi ≤ lo' ∨ hi' ≤ lo) : StrsOwn lo hi w' v L := by
  rcases h with h | ⟨b, off, cap, h1, h2, h3, h4, h5, h6, h7, h8, h9⟩
  · exact Or.inl h
  · exact Or.inr ⟨b, off, cap, h1, h2, h3, Nat.lt_of_lt_of_le h4 ht.size, fun i hi' => by rw [ht.cell (p := ⟨b, _, none⟩) h4 (by simp only []; omega)]; exact h5 i hi', h6, h7, h8, fun i => by rw [ht.frozen (p := ⟨b, _, none⟩) h4 (by simp only []; omega)]; exact h9 i⟩

/-- marks from k on -/
def marks (k : Int) (n : Nat) : List ByteArray := (List.range n).map fun (i : Nat) => mtB (k + (i : Int))
theorem marks_len (k : Int) (n : Nat) : (marks k n).length = n := by simp [marks]
theorem marks_get (k : Int) (n i : Nat) (h : i < (marks k n).length) : (marks k n)[i] = mtB (k + i) := by simp [marks]

set_option maxHeartbeats 1000000 in
theorem markStrs_any (lo hi : Nat) (v : Value) (L : List ByteArray) (k : Int) (w : World) (hv : StrsOwn lo hi w v L) (h0 : 0 ≤ k) (hk : k + L.length ≤ 4000000000000000000) :
    Calls Try.prog 109 #[v, .int .i64 k] w fun e w' => e = .returned (.int .i64 (k + L.length)) ∧ Touch lo hi w w' ∧ StrsOwn lo hi w' v (marks k L.length) := by
  rcases hv with ⟨a, cap, rfl, rfl⟩ | ⟨b, off, cap, rfl, hne, hm, hbw, hc, hsz, hlo, hhi, hfr⟩
  · go_enter Try.func109, Try.ntmps109
    go_wp2
    go_loop [5, 1] (fun i q => i = .int .i64 0 ∧ q = .int .i64 k) (fun _ _ => 0)
    case atStart => exact ⟨rfl, rfl⟩
    case round =>
      obtain ⟨rfl, rfl⟩ := hrel
      go_wp2
      go_ret
      exact ⟨by simp, Touch.refl _ _ _, Or.inl ⟨_, _, rfl, rfl⟩⟩
  · unfold maxLen at hm
    go_enter Try.func109, Try.ntmps109
    go_wp2
    go_loopw [5, 1] (fun i q wr => ∃ j : Nat, i = .int .i64 j ∧ q = .int .i64 (k + j) ∧ j ≤ L.length ∧ Touch lo hi w wr ∧ (∀ i, i < j → wr.cell? ⟨b, off + i, none⟩ = some (.string (mtB (k + i)))) ∧ (∀ i (h : i < L.length), j ≤ i → wr.cell? ⟨b, off + i, none⟩ = some (.string L[i])) ∧ ∀ i, wr.frozen? ⟨b, off + i, none⟩ = false) (fun i _ _ => L.length - (intOf i).toNat)
    case atStart => exact ⟨0, rfl, by simp, by omega, Touch.refl _ _ _, fun i h => by omega, fun i h _ => hc i h, hfr⟩
    case round =>
      obtain ⟨j, rfl, rfl, hj, ht, hA, hB, hF⟩ := hrel
      have HT := hide ht
      have HA := hide hA
      have HBB := hide hB
      have HF := hide hF
      clear ht hA hB hF
      by_cases hlt : j < L.length
      · have hbr : b < wr.heap.size := Nat.lt_of_lt_of_le hbw HT.out.size
        go_wp2_with fail
        refine (markText_any _ _ (by omega)).mono ?_
        rintro e w1 ⟨rfl, hb1⟩
        have hcj : w1.cell? ⟨b, off + j, none⟩ = some (.string L[j]) := by rw [hb1.cell (p := ⟨b, _, none⟩) hbr]; exact HBB.out j hlt (Nat.le_refl _)
        have hfj : w1.frozen? ⟨b, off + j, none⟩ = false := by rw [hb1.frozen (p := ⟨b, _, none⟩) hbr]; exact HF.out j
        have HB1 := hide hb1
        clear hb1
        go_wp2
        go_roundw
        case rel =>
          refine ⟨j + 1, by go_num, by go_num, by omega, (HT.out.trans (Touch.below HB1.out)).trans (Touch.setCell _ _ _ _ _ ⟨hlo, hhi⟩), fun i hi' => ?_, fun i h hi' => ?_, fun i => ?_⟩
          · by_cases e : i = j
            · subst e; exact World.cell?_setCell_same' _ _ _ (by rw [hcj]; rfl)
            · rw [show (w1.setCell ⟨b, off + j, none⟩ (.string (mtB (k + j)))).cell? ⟨b, off + i, none⟩ = w1.cell? ⟨b, off + i, none⟩ from by apply World.cell?_setCell_other; simp only [ne_eq, Addr.mk.injEq, not_and]; omega, HB1.out.cell (p := ⟨b, _, none⟩) hbr]
              exact HA.out i (by omega)
          · rw [show (w1.setCell ⟨b, off + j, none⟩ (.string (mtB (k + j)))).cell? ⟨b, off + i, none⟩ = w1.cell? ⟨b, off + i, none⟩ from by apply World.cell?_setCell_other; simp only [ne_eq, Addr.mk.injEq, not_and]; omega, HB1.out.cell (p := ⟨b, _, none⟩) hbr]
            exact HBB.out i h (by omega)
          · rw [World.frozen?_setCell, HB1.out.frozen (p := ⟨b, _, none⟩) hbr]
            exact HF.out i
        case measure => simp [intOf]; omega
      · have e : j = L.length := by omega
        subst e
        go_wp2
        go_ret
        refine ⟨rfl, HT.out, Or.inr ⟨b, off, cap, by rw [marks_len], ?_, by rw [marks_len]; unfold maxLen; omega, Nat.lt_of_lt_of_le hbw HT.out.size, fun i h => ?_, fun s hs => ?_, hlo, hhi, HF.out⟩⟩
        · intro e; have := congrArg List.length e; rw [marks_len] at this; simp at this; exact hne this
        · rw [marks_get]; exact HA.out i (by rw [marks_len] at h; exact h)
        · obtain ⟨i, hi', rfl⟩ := List.mem_map.1 hs
          exact mt_size _ (by have := List.mem_range.1 hi'; omega)

set_option maxHeartbeats 1000000 in
theorem heldStrs_any (v : Value) (n : Nat) (k : Int) (w : World) (hv : StrsAt w v (marks k n)) (h0 : 0 ≤ k) (hk : k + n ≤ 4000000000000000000) :
    Calls Try.prog 110 #[v, .int .i64 k] w fun e w' => e = .returned (.int .i64 (k + n)) ∧ Below w.heap.size w w' := by
  rcases hv with ⟨a, cap, rfl, hn⟩ | ⟨b, off, cap, rfl, hne, hm, hbw, hc, hsz⟩
  · have e : n = 0 := by have := congrArg List.length hn; rw [marks_len] at this; simpa using this
    subst e
    clear hn
    go_enter Try.func110, Try.ntmps110
    go_wp2
    go_loop [5, 1] (fun i q => i = .int .i64 0 ∧ q = .int .i64 k) (fun _ _ => 0)
    case atStart => exact ⟨rfl, rfl⟩
    case round =>
      obtain ⟨rfl, rfl⟩ := hrel
      go_wp2
      go_ret
      exact ⟨by simp, Below.refl _ _⟩
  · rw [marks_len] at hm
    rw [marks_len]
    have hc' : ∀ i, i < n → w.cell? ⟨b, off + i, none⟩ = some (.string (mtB (k + i))) := fun i h => by
      have := hc i (by rw [marks_len]; exact h)
      rwa [marks_get] at this
    clear hc hne hsz
    unfold maxLen at hm
    go_enter Try.func110, Try.ntmps110
    go_wp2
    go_loopw [5, 1] (fun i q wr => ∃ j : Nat, i = .int .i64 j ∧ q = .int .i64 (k + j) ∧ j ≤ n ∧ Below w.heap.size w wr) (fun i _ _ => n - (intOf i).toNat)
    case atStart => exact ⟨0, rfl, by simp, by omega, Below.refl _ _⟩
    case round =>
      obtain ⟨j, rfl, rfl, hj, hb⟩ := hrel
      have HB := hide hb
      clear hb
      by_cases hlt : j < n
      · have hcj : wr.cell? ⟨b, off + j, none⟩ = some (.string (mtB (k + j))) := by rw [HB.out.cell (p := ⟨b, _, none⟩) hbw]; exact hc' j hlt
        have hbr : b < wr.heap.size := Nat.lt_of_lt_of_le hbw HB.out.size
        go_wp2
        go_region_with (go_at_call 70; refine (markText_any _ _ (by omega)).mono ?_; rintro e w1 ⟨rfl, hb1⟩; have hcj1 : w1.cell? ⟨b, off + j, none⟩ = some (.string (mtB (k + j))) := (hb1.cell (p := ⟨b, off + j, none⟩) hbr).trans hcj; have HB1 : Hid (Below w.heap.size w w1) := (HB.out.drew).trans (hb1.mono HB.out.size); clear hb1)
        all_goals
          go_wp2
          go_roundw
          case rel => exact ⟨j + 1, by go_num, by go_num, by omega, HB1.out⟩
          case measure => simp [intOf]; omega
      · have e : j = n := by omega
        subst e
        go_wp2
        go_ret
        exact ⟨rfl, HB.out⟩
end Go.Proofs.Ytmaagbnjpdijnaa

namespace Go.Proofs.Ytmaagbnjpdijnaa
open Go.RowKit Go.Deep

/-- TOUCHED FROM lo TO hi, and every cell is still there, as free as it was. -/
structure Kept (lo hi : Nat) (w w' : World) : Prop where
  touch : Touch lo hi w w'
  there : ∀ p : Addr, p.block < w.heap.size → (w.cell? p).isSome = true → (w'.cell? p).isSome = true
  frz : ∀ p : Addr, p.block < w.heap.size → w'.frozen? p = w.frozen? p
theorem Kept.refl (lo hi : Nat) (w : World) : Kept lo hi w w := ⟨Touch.refl _ _ _, fun _ _ h => h, fun _ _ => rfl⟩
theorem Kept.trans {lo hi : Nat} {a b c : World} (h : Kept lo hi a b) (k : Kept lo hi b c) : Kept lo hi a c :=
  ⟨h.touch.trans k.touch, fun p hp hs => k.there p (Nat.lt_of_lt_of_le hp h.touch.size) (h.there p hp hs), fun p hp => (k.frz p (Nat.lt_of_lt_of_le hp h.touch.size)).trans (h.frz p hp)⟩
theorem Kept.below {lo hi : Nat} {a b : World} (h : Below a.heap.size a b) : Kept lo hi a b :=
  ⟨Touch.below h, fun p hp hs => by rw [h.cell hp]; exact hs, fun p hp => h.frozen hp⟩
theorem Kept.setCell (lo hi : Nat) (w : World) (p : Addr) (u : Value) (h : lo ≤ p.block ∧ p.block < hi) (hs : (w.cell? p).isSome = true) : Kept lo hi w (w.setCell p u) := by
  refine ⟨Touch.setCell _ _ _ _ _ h, fun q _ hq => ?_, fun q _ => World.frozen?_setCell ..⟩
  by_cases e : p = q
  · subst e; rw [World.cell?_setCell_same' _ _ _ hs]; rfl
  · rw [show (w.setCell p u).cell? q = w.cell? q from by apply World.cell?_setCell_other; exact e]; exact hq
theorem Kept.wide {lo hi lo' hi' : Nat} {a b : World} (h : Kept lo hi a b) (h1 : lo' ≤ lo) (h2 : hi ≤ hi') : Kept lo' hi' a b := ⟨h.touch.wide h1 h2, h.there, h.frz⟩

/-- A LIST OF n CELLS THAT MAY BE WRITTEN, in a block from lo to hi. -/
def Writ (lo hi : Nat) (w : World) (v : Value) (n : Nat) : Prop :=
  (∃ (a : Option Addr) (cap : Nat), v = .slice a 0 cap ∧ n = 0) ∨
  ∃ (b off cap : Nat), v = .slice (some ⟨b, off, none⟩) n cap ∧ 0 < n ∧ n ≤ maxLen ∧ b < w.heap.size ∧
    (∀ i, i < n → (w.cell? ⟨b, off + i, none⟩).isSome = true) ∧ lo ≤ b ∧ b < hi ∧ ∀ i, w.frozen? ⟨b, off + i, none⟩ = false
theorem Writ.kept {lo hi lo' hi' : Nat} {w w' : World} {v : Value} {n : Nat} (h : Writ lo hi w v n) (k : Kept lo' hi' w w') : Writ lo hi w' v n := by
  rcases h with h | ⟨b, off, cap, h1, h2, h3, h4, h5, h6, h7, h8⟩
  · exact Or.inl h
  · exact Or.inr ⟨b, off, cap, h1, h2, h3, Nat.lt_of_lt_of_le h4 k.touch.size, fun i hi' => k.there _ h4 (h5 i hi'), h6, h7, fun i => (k.frz _ h4).trans (h8 i)⟩
theorem Writ.wide {lo hi lo' hi' : Nat} {w : World} {v : Value} {n : Nat} (h : Writ lo hi w v n) (h1 : lo' ≤ lo) (h2 : hi ≤ hi') : Writ lo' hi' w v n := by
  rcases h with h | ⟨b, off, cap, q1, q2, q3, q4, q5, q6, q7, q8⟩
  · exact Or.inl h
  · exact Or.inr ⟨b, off, cap, q1, q2, q3, q4, q5, by omega, by omega, q8⟩
theorem Writ.form {lo hi : Nat} {w : World} {v : Value} {n : Nat} (h : Writ lo hi w v n) : ∃ a cap, v = .slice a n cap := by
  rcases h with ⟨a, cap, h, rfl⟩ | ⟨b, off, cap, h, _⟩
  · exact ⟨a, cap, h⟩
  · exact ⟨_, cap, h⟩

end Go.Proofs.Ytmaagbnjpdijnaa

