import Derived.Test.YtlednecohppljaaGreatV02
import Derived.Test.YtlednecohppljaaGreatV04
import Derived.Laws.IdiomStrings
import Derived.Laws.Concat
import Derived.Deep.RegionWith
namespace Go.Proofs.YtlednecohppljaaGreat
open Go.RowKit Go.Deep

/-- the digits of a number, ahead of what there is -/
def digs : Nat → Nat → List UInt8 → List UInt8
  | 0, _, acc => acc
  | f + 1, k, acc => if k = 0 then acc else digs f (k / 10) (UInt8.ofNat (48 + k % 10) :: acc)
theorem digs_zero (f : Nat) (acc : List UInt8) : digs f 0 acc = acc := by cases f <;> simp [digs]
theorem digs_fuel (k : Nat) : ∀ f acc, k ≤ f → digs f k acc = digs k k acc := by
  induction k using Nat.strongRecOn with
  | _ k ih =>
    intro f acc hf
    by_cases h0 : k = 0
    · subst h0; rw [digs_zero, digs_zero]
    · obtain ⟨f', rfl⟩ : ∃ f', f = f' + 1 := ⟨f - 1, by omega⟩
      obtain ⟨k', rfl⟩ : ∃ k', k = k' + 1 := ⟨k - 1, by omega⟩
      have h1 : (k' + 1) / 10 < k' + 1 := by omega
      rw [show digs (f' + 1) (k' + 1) acc = digs f' ((k' + 1) / 10) (UInt8.ofNat (48 + (k' + 1) % 10) :: acc) from by simp [digs],
        show digs (k' + 1) (k' + 1) acc = digs k' ((k' + 1) / 10) (UInt8.ofNat (48 + (k' + 1) % 10) :: acc) from by simp [digs]]
      rw [ih _ h1 f' _ (by omega), ih _ h1 k' _ (by omega)]
theorem digs_step (k : Nat) (acc : List UInt8) (h : 0 < k) : digs k k acc = digs (k / 10) (k / 10) (UInt8.ofNat (48 + k % 10) :: acc) := by
  obtain ⟨k', rfl⟩ : ∃ k', k = k' + 1 := ⟨k - 1, by omega⟩
  rw [show digs (k' + 1) (k' + 1) acc = digs k' ((k' + 1) / 10) (UInt8.ofNat (48 + (k' + 1) % 10) :: acc) from by simp [digs]]
  exact digs_fuel _ _ _ (by omega)
/-- the mark of a number -/
def mtB (k : Int) : ByteArray := if k ≤ 0 then ⟨#[109, 48]⟩ else ⟨(109 :: digs k.toNat k.toNat []).toArray⟩

set_option maxRecDepth 20000 in
set_option maxHeartbeats 400000 in
theorem markText_any (k : Int) (w : World) (hk : k ≤ 4000000000000000000) :
    Calls Tryz.prog 100 #[.int .i64 k] w fun e w' => e = .returned (.string (mtB k)) ∧ Below w.heap.size w w' := by
  by_cases h0 : k ≤ 0
  · go_enter Tryz.func100, Tryz.ntmps100
    go_wp2
    go_ret
    exact ⟨by unfold mtB; rw [if_pos h0]; rfl, Below.refl _ _⟩
  · obtain ⟨n, rfl⟩ := Int.eq_ofNat_of_zero_le (show 0 ≤ k by omega)
    go_enter Tryz.func100, Tryz.ntmps100
    go_wp2
    go_loopw [0, 3] (fun q o wr => ∃ (j : Nat) (l : List UInt8), q = .int .i64 j ∧ o = .string ⟨l.toArray⟩ ∧ l.length + j ≤ n ∧ Below w.heap.size w wr ∧ Hid (digs j j l = digs n n [])) (fun q _ _ => (intOf q).toNat)
    case atStart => exact ⟨n, [], rfl, rfl, by simp, Below.refl _ _, rfl⟩
    case round =>
      obtain ⟨j, l, rfl, rfl, hl, hb, hd⟩ := hrel
      by_cases hj : 0 < j
      · have hn8 : (UInt8.ofNat (48 + j % 10)).toNat = 48 + j % 10 := by rw [UInt8.toNat_ofNat']; omega
        have hcv : (convert 135 9 (.slice (some ⟨wr.heap.size, 0, none⟩) 1 1)).run Tryz.prog (wr.alloc (.cells #[.int .u8 (48 + (j : Int) % 10)] 5)) = .ok (.string ⟨#[UInt8.ofNat (48 + j % 10)]⟩) (wr.alloc (.cells #[.int .u8 (48 + (j : Int) % 10)] 5)) := by
          have := run_convert_bytes_back (P := Tryz.prog) (wr.alloc (.cells #[.int .u8 (48 + (j : Int) % 10)] 5)) 135 9 5 ⟨wr.heap.size, 0, none⟩ 1 [UInt8.ofNat (48 + j % 10)] Tryz.underlying135 Tryz.underlying5 Tryz.underlying9 (fun i hi => by
            have e : i = 0 := by simp at hi; omega
            subst e
            simp only [List.getElem_cons_zero, hn8]
            simp [Addr.add])
          exact this
        have had : ∀ W, (Op.stringOp .add ⟨#[UInt8.ofNat (48 + j % 10)]⟩ ⟨l.toArray⟩).run Tryz.prog W = .ok (.string ⟨(UInt8.ofNat (48 + j % 10) :: l).toArray⟩) W := fun W => by
          have := run_string_add_sum (P := Tryz.prog) (w := W) ⟨#[UInt8.ofNat (48 + j % 10)]⟩ ⟨l.toArray⟩ (by simp [ByteArray.size]; omega)
          rw [this]
          rfl
        have HD : Hid (digs (j / 10) (j / 10) (UInt8.ofNat (48 + j % 10) :: l) = digs n n []) := by unfold Hid; rw [← digs_step j l hj]; exact hd
        have HB := hide hb
        clear hn8 hd hb
        generalize UInt8.ofNat (48 + j % 10) = dg at *
        go_wp2
        go_roundw
        case rel => exact ⟨j / 10, dg :: l, by go_num, rfl, by simp; omega, HB.out.alloc HB.out.size _, HD⟩
        case measure => simp [intOf]; omega
      · have had : ∀ W, (Op.stringOp .add ⟨#[109]⟩ ⟨l.toArray⟩).run Tryz.prog W = .ok (.string ⟨(109 :: l).toArray⟩) W := fun W => by
          have := run_string_add_sum (P := Tryz.prog) (w := W) ⟨#[109]⟩ ⟨l.toArray⟩ (by simp [ByteArray.size]; omega)
          rw [this]
          rfl
        have HM : Hid (mtB n = ⟨(109 :: l).toArray⟩) := by
          have e : j = 0 := by omega
          subst e
          unfold Hid mtB
          rw [if_neg (by omega), Int.toNat_natCast, ← hd, digs_zero]
        clear hd
        go_wp2
        go_ret
        exact ⟨by rw [HM.out]; rfl, hb⟩

theorem mt_size (k : Int) (hk : k ≤ 4000000000000000000) : (mtB k).size ≤ maxLen := by
  unfold mtB
  by_cases h : k ≤ 0
  · rw [if_pos h]; simp [ByteArray.size, maxLen]
  · rw [if_neg h]
    have : ∀ (f j : Nat) (l : List UInt8), (digs f j l).length ≤ l.length + f := by
      intro f
      induction f with
      | zero => intro j l; simp [digs]
      | succ f ih =>
        intro j l
        rw [digs]
        by_cases h0 : j = 0
        · rw [if_pos h0]; omega
        · rw [if_neg h0]
          have := ih (j / 10) (UInt8.ofNat (48 + j % 10) :: l)
          simp only [List.length_cons] at this; omega
    have := this k.toNat k.toNat []
    simp [ByteArray.size, maxLen] at *
    omega
/-- ONLY THE BLOCKS FROM lo TO hi MAY HAVE TURNED; new ones may have come. -/
structure Touch (lo hi : Nat) (w w' : World) : Prop where
  os : w'.os = w.os
  tape : w'.tape = w.tape
  output : w'.output = w.output
  size : w.heap.size ≤ w'.heap.size
  block : ∀ k, k < w.heap.size → (k < lo ∨ hi ≤ k) → w'.heap[k]? = w.heap[k]?
theorem Touch.refl (lo hi : Nat) (w : World) : Touch lo hi w w := ⟨rfl, rfl, rfl, Nat.le_refl _, fun _ _ _ => rfl⟩
theorem Touch.trans {lo hi : Nat} {a b c : World} (h : Touch lo hi a b) (k : Touch lo hi b c) : Touch lo hi a c :=
  ⟨k.os.trans h.os, k.tape.trans h.tape, k.output.trans h.output, Nat.le_trans h.size k.size, fun i hi' ho => (k.block i (Nat.lt_of_lt_of_le hi' h.size) ho).trans (h.block i hi' ho)⟩
theorem Touch.below {lo hi : Nat} {a b : World} (h : Below a.heap.size a b) : Touch lo hi a b := ⟨h.os, h.tape, h.output, h.size, fun k hk _ => h.block k hk⟩
theorem Touch.setCell (lo hi : Nat) (w : World) (p : Addr) (u : Value) (h : lo ≤ p.block ∧ p.block < hi) : Touch lo hi w (w.setCell p u) :=
  ⟨rfl, rfl, rfl, by simp [World.setCell], fun k _ ho => Below.heap_setCell _ _ _ _ (by omega)⟩
theorem Touch.cell {lo hi : Nat} {w w' : World} (h : Touch lo hi w w') {p : Addr} (hp : p.block < w.heap.size) (ho : p.block < lo ∨ hi ≤ p.block) : w'.cell? p = w.cell? p := World.cell?_of_block (w := w) (h.block p.block hp ho)
theorem Touch.frozen {lo hi : Nat} {w w' : World} (h : Touch lo hi w w') {p : Addr} (hp : p.block < w.heap.size) (ho : p.block < lo ∨ hi ≤ p.block) : w'.frozen? p = w.frozen? p := World.frozen?_of_block (w := w) (h.block p.block hp ho)
theorem Touch.wide {lo hi lo' hi' : Nat} {a b : World} (h : Touch lo hi a b) (h1 : lo' ≤ lo) (h2 : hi ≤ hi') : Touch lo' hi' a b := ⟨h.os, h.tape, h.output, h.size, fun k hk ho => h.block k hk (by omega)⟩
/-- what was touched from lo on leaves all below as it was -/
theorem Touch.under {lo hi : Nat} {a b : World} (h : Touch lo hi a b) (hl : lo ≤ a.heap.size) : Below lo a b := ⟨h.os, h.tape, h.output, h.size, fun k hk => h.block k (by omega) (Or.inl hk)⟩

/-! books of one's own: only some cells of a block, and the blocks of an interval, may have turned -/
structure Near (b o n lo hi : Nat) (w w' : World) : Prop where
  os : w'.os = w.os
  tape : w'.tape = w.tape
  output : w'.output = w.output
  size : w.heap.size ≤ w'.heap.size
  block : ∀ k, k < w.heap.size → k ≠ b → (k < lo ∨ hi ≤ k) → w'.heap[k]? = w.heap[k]?
  cell : ∀ i, (i < o ∨ o + n ≤ i) → w'.cell? ⟨b, i, none⟩ = w.cell? ⟨b, i, none⟩
  frz : ∀ i, w'.frozen? ⟨b, i, none⟩ = w.frozen? ⟨b, i, none⟩
theorem Near.refl (b o n lo hi : Nat) (w : World) : Near b o n lo hi w w := ⟨rfl, rfl, rfl, Nat.le_refl _, fun _ _ _ _ => rfl, fun _ _ => rfl, fun _ => rfl⟩
theorem Near.trans {b o n lo hi : Nat} {u v w : World} (h : Near b o n lo hi u v) (k : Near b o n lo hi v w) : Near b o n lo hi u w :=
  ⟨k.os.trans h.os, k.tape.trans h.tape, k.output.trans h.output, Nat.le_trans h.size k.size, fun i hi' hb ho => (k.block i (Nat.lt_of_lt_of_le hi' h.size) hb ho).trans (h.block i hi' hb ho), fun i hi' => (k.cell i hi').trans (h.cell i hi'), fun i => (k.frz i).trans (h.frz i)⟩
theorem Near.below {b o n lo hi : Nat} {w w' : World} (h : Below w.heap.size w w') (hb : b < w.heap.size) : Near b o n lo hi w w' :=
  ⟨h.os, h.tape, h.output, h.size, fun k hk _ _ => h.block k hk, fun i _ => h.cell (p := ⟨b, i, none⟩) hb, fun i => h.frozen (p := ⟨b, i, none⟩) hb⟩
theorem Near.touch {b o n lo hi lo' hi' : Nat} {w w' : World} (h : Touch lo' hi' w w') (hb : b < w.heap.size) (h1 : lo ≤ lo') (h2 : hi' ≤ hi) (hx : b < lo' ∨ hi' ≤ b) : Near b o n lo hi w w' :=
  ⟨h.os, h.tape, h.output, h.size, fun k hk _ ho => h.block k hk (by omega), fun i _ => h.cell (p := ⟨b, i, none⟩) hb hx, fun i => h.frozen (p := ⟨b, i, none⟩) hb hx⟩
theorem Near.set (b o n lo hi : Nat) (w : World) (i : Nat) (u : Value) (h1 : o ≤ i) (h2 : i < o + n) : Near b o n lo hi w (w.setCell ⟨b, i, none⟩ u) :=
  ⟨rfl, rfl, rfl, by simp [World.setCell], fun k _ hb _ => Below.heap_setCell _ _ _ _ hb, fun j hj => by apply World.cell?_setCell_other; simp only [ne_eq, Addr.mk.injEq, not_and]; omega, fun j => by rw [World.frozen?_setCell]⟩
theorem Near.wide {b o n lo hi lo' hi' : Nat} {w w' : World} (h : Near b o n lo hi w w') (_hb : b < w.heap.size) (h1 : lo' ≤ lo) (h2 : hi ≤ hi') (hx : lo' ≤ b ∧ b < hi') : Touch lo' hi' w w' :=
  ⟨h.os, h.tape, h.output, h.size, fun k hk ho => h.block k hk (by omega) (by omega)⟩
theorem Near.out {b o n lo hi : Nat} {w w' : World} (h : Near b o n lo hi w w') {p : Addr} (hp : p.block < w.heap.size) (hb : p.block ≠ b) (ho : p.block < lo ∨ hi ≤ p.block) : w'.cell? p = w.cell? p ∧ w'.frozen? p = w.frozen? p :=
  ⟨World.cell?_of_block (w := w) (h.block p.block hp hb ho), World.frozen?_of_block (w := w) (h.block p.block hp hb ho)⟩
theorem cne {v : World} {b i j : Nat} {u : Value} (h : i ≠ j) : (v.setCell ⟨b, i, none⟩ u).cell? ⟨b, j, none⟩ = v.cell? ⟨b, j, none⟩ := by
  apply World.cell?_setCell_other
  simp only [ne_eq, Addr.mk.injEq, not_and]
  omega
theorem Touch.setB (B : Nat) (w : World) (i : Nat) (u : Value) : Touch B (B + 1) w (w.setCell ⟨B, i, none⟩ u) := Touch.setCell _ _ _ _ _ ⟨Nat.le_refl _, Nat.lt_succ_self _⟩
end Go.Proofs.YtlednecohppljaaGreat
namespace Go.Proofs.YtlednecohppljaaGreat
open Go.RowKit Go.Deep

def RsOne (b o _c0 _c1 : Nat) (w : World) (x : Rs) : Prop := RsSize x ∧ RsCells w b o x
theorem RsOne.near {b o c0 c1 o1 d0 d1 : Nat} {w w' : World} {x : Rs} (h : RsOne b o c0 c1 w x) (hn : Near b o1 2 d0 d1 w w') (ho : o + 2 ≤ o1 ∨ o1 + 2 ≤ o) (hi : c1 ≤ d0 ∨ d1 ≤ c0) (hb : b < c0 ∨ c1 ≤ b) : RsOne b o c0 c1 w' x := by
  obtain ⟨hs, hc⟩ := h
  obtain ⟨h0, h1⟩ := hc
  have e : ∀ t, t < 2 → w'.cell? ⟨b, o + t, none⟩ = w.cell? ⟨b, o + t, none⟩ := fun t ht => hn.cell _ (by omega)
  have e0 : w'.cell? ⟨b, o, none⟩ = w.cell? ⟨b, o, none⟩ := hn.cell _ (by omega)
  exact ⟨hs, ⟨e0.trans h0, (e 1 (by omega)).trans h1⟩⟩
theorem RsOne.touch {b o c0 c1 : Nat} {lo hi : Nat} {w w' : World} {x : Rs} (h : RsOne b o c0 c1 w x) (ht : Touch lo hi w w') (hlt : b < w.heap.size) (hb : b < lo ∨ hi ≤ b) (_hi : c1 ≤ lo ∨ hi ≤ c0) : RsOne b o c0 c1 w' x := by
  obtain ⟨hs, hc⟩ := h
  obtain ⟨h0, h1⟩ := hc
  exact ⟨hs, ⟨(ht.cell (p := ⟨b, o, none⟩) hlt hb).trans h0, (ht.cell (p := ⟨b, o + 1, none⟩) hlt hb).trans h1⟩⟩
theorem RsOne.below {b o c0 c1 : Nat}  {w w' : World} {x : Rs} (h : RsOne b o c0 c1 w x) (ht : Below w.heap.size w w') (hlt : b < w.heap.size) : RsOne b o c0 c1 w' x := by
  obtain ⟨hs, hc⟩ := h
  obtain ⟨h0, h1⟩ := hc
  exact ⟨hs, ⟨(ht.cell (p := ⟨b, o, none⟩) hlt).trans h0, (ht.cell (p := ⟨b, o + 1, none⟩) hlt).trans h1⟩⟩
structure RsRow (lo hi : Nat) (w : World) (b off n : Nat) (c : Nat → Nat) (X : Nat → Rs) : Prop where
  lt : b < w.heap.size
  low : lo ≤ b
  bc : b < c 0
  bh : b < hi
  mono : ∀ i, i < n → c i ≤ c (i + 1)
  top : c n ≤ hi
  frz : ∀ i, w.frozen? ⟨b, i, none⟩ = false
  row : ∀ i, i < n → RsOne b (off + i * 2) (c i) (c (i + 1)) w (X i)
theorem RsRow.le {lo hi : Nat} {w : World} {b off n : Nat} {c : Nat → Nat} {X : Nat → Rs} (h : RsRow lo hi w b off n c X) {i : Nat} : ∀ {j : Nat}, i ≤ j → j ≤ n → c i ≤ c j := by
  intro j
  induction j with
  | zero => intro hij _; have : i = 0 := by omega
            subst this; exact Nat.le_refl _
  | succ j ih =>
    intro hij hjn
    by_cases e : i = j + 1
    · subst e; exact Nat.le_refl _
    · exact Nat.le_trans (ih (by omega) (by omega)) (h.mono j (by omega))
theorem RsRow.near {lo hi : Nat} {w w' : World} {b off n : Nat} {c : Nat → Nat} {X : Nat → Rs} (h : RsRow lo hi w b off n c X) {j : Nat} (hj : j < n) (hn : Near b (off + j * 2) 2 (c j) (c (j + 1)) w w') {x : Rs} (hx : RsOne b (off + j * 2) (c j) (c (j + 1)) w' x) : RsRow lo hi w' b off n c (fun i => if i = j then x else X i) := by
  refine ⟨Nat.lt_of_lt_of_le h.lt hn.size, h.low, h.bc, h.bh, h.mono, h.top, fun i => (hn.frz i).trans (h.frz i), fun i hi' => ?_⟩
  by_cases e : i = j
  · subst e; rw [if_pos rfl]; exact hx
  · rw [if_neg e]
    have h0 := h.le (Nat.zero_le i) (by omega)
    have hbc := h.bc
    refine (h.row i hi').near hn (by omega) ?_ (by omega)
    rcases Nat.lt_or_ge i j with hij | hij
    · exact Or.inl (h.le (by omega) (by omega))
    · exact Or.inr (h.le (by omega) (by omega))
theorem RsRow.touch {lo hi lo' hi' : Nat} {w w' : World} {b off n : Nat} {c : Nat → Nat} {X : Nat → Rs} (h : RsRow lo hi w b off n c X) (ht : Touch lo' hi' w w') (ho : hi ≤ lo' ∨ hi' ≤ lo) : RsRow lo hi w' b off n c X := by
  have h1 := h.low
  have h2 := h.bh
  have h3 := h.top
  have h4 := h.bc
  refine ⟨Nat.lt_of_lt_of_le h.lt ht.size, h.low, h.bc, h.bh, h.mono, h.top, fun i => (ht.frozen (p := ⟨b, i, none⟩) h.lt (by simp only []; omega)).trans (h.frz i), fun i hi' => ?_⟩
  have h5 := h.le (Nat.zero_le i) (by omega)
  have h6 := h.le (i := i + 1) (j := n) (by omega) (Nat.le_refl _)
  exact (h.row i hi').touch ht h.lt (by omega) (by omega)
theorem RsRow.below {lo hi : Nat} {w w' : World} {b off n : Nat} {c : Nat → Nat} {X : Nat → Rs} (h : RsRow lo hi w b off n c X) (ht : Below w.heap.size w w') : RsRow lo hi w' b off n c X :=
  ⟨Nat.lt_of_lt_of_le h.lt ht.size, h.low, h.bc, h.bh, h.mono, h.top, fun i => (ht.frozen (p := ⟨b, i, none⟩) h.lt).trans (h.frz i), fun i hi' => (h.row i hi').below ht h.lt⟩
theorem RsRow.to {lo hi : Nat} {w : World} {b off n : Nat} {c : Nat → Nat} {X Y : Nat → Rs} (h : RsRow lo hi w b off n c X) (e : ∀ i, i < n → X i = Y i) : RsRow lo hi w b off n c Y :=
  ⟨h.lt, h.low, h.bc, h.bh, h.mono, h.top, h.frz, fun i hi' => e i hi' ▸ h.row i hi'⟩
/-- a list of one's own -/
def RssOwn (lo hi : Nat) (w : World) (v : Value) (Xl : List Rs) : Prop :=
  (∃ (a : Option Addr) (cap : Nat), v = .slice a 0 cap ∧ Xl = []) ∨
  ∃ (b off cap : Nat) (c : Nat → Nat) (X : Nat → Rs), v = .slice (some ⟨b, off, none⟩) Xl.length cap ∧ Xl ≠ [] ∧ Xl.length ≤ maxLen ∧ Xl.length ≤ cap ∧ (∀ i (h : i < Xl.length), X i = Xl[i]) ∧ RsRow lo hi w b off Xl.length c X
theorem RssOwn.touch {lo hi lo' hi' : Nat} {w w' : World} {v : Value} {Xl : List Rs} (h : RssOwn lo hi w v Xl) (ht : Touch lo' hi' w w') (ho : hi ≤ lo' ∨ hi' ≤ lo) : RssOwn lo hi w' v Xl := by
  rcases h with h | ⟨b, off, cap, c, X, h1, h2, h3, h4, h5, h6⟩
  · exact Or.inl h
  · exact Or.inr ⟨b, off, cap, c, X, h1, h2, h3, h4, h5, h6.touch ht ho⟩
theorem RssOwn.below {lo hi : Nat} {w w' : World} {v : Value} {Xl : List Rs} (h : RssOwn lo hi w v Xl) (ht : Below w.heap.size w w') : RssOwn lo hi w' v Xl := by
  rcases h with h | ⟨b, off, cap, c, X, h1, h2, h3, h4, h5, h6⟩
  · exact Or.inl h
  · exact Or.inr ⟨b, off, cap, c, X, h1, h2, h3, h4, h5, h6.below ht⟩
theorem RssOwn.form {lo hi : Nat} {w : World} {v : Value} {Xl : List Rs} (h : RssOwn lo hi w v Xl) : ∃ a cap, v = .slice a Xl.length cap := by
  rcases h with ⟨a, cap, h, rfl⟩ | ⟨b, off, cap, c, X, h1, _⟩
  · exact ⟨a, cap, h⟩
  · exact ⟨_, cap, h1⟩
theorem RssOwn.at {lo hi : Nat} {w : World} {v : Value} {Xl : List Rs} (h : RssOwn lo hi w v Xl) : RssAt lo w v Xl := by
  rcases h with h | ⟨b, off, cap, c, X, h1, h2, h3, h4, h5, h6⟩
  · exact Or.inl h
  · refine Or.inr ⟨b, off, cap, h1, h2, h3, h6.lt, h6.low, h4, fun i hi' => ?_⟩
    have hr := h6.row i hi'
    rw [h5 i hi'] at hr
    obtain ⟨hs, hc⟩ := hr
    exact ⟨hs, hc⟩
/-- marks from k on -/
def mkRs (k : Int) (_x : Rs) : Rs := ⟨k, mtB (k + 1)⟩
def wdRs (_x : Rs) : Nat := 2
def posRs (Xl : List Rs) (i : Nat) : Nat := ((Xl.take i).map wdRs).sum
def mkRss (k : Int) (Xl : List Rs) : List Rs := Xl.mapIdx (fun i x => mkRs (k + (posRs Xl i : Int)) x)
theorem mkRss_len (k : Int) (Xl : List Rs) : (mkRss k Xl).length = Xl.length := by unfold mkRss; simp
theorem mkRss_get (k : Int) (Xl : List Rs) (i : Nat) (h : i < (mkRss k Xl).length) (h' : i < Xl.length) : (mkRss k Xl)[i] = mkRs (k + (posRs Xl i : Int)) Xl[i] := List.getElem_mapIdx (f := fun i x => mkRs (k + (posRs Xl i : Int)) x) (h := h)
theorem posRs_succ {Xl : List Rs} {i : Nat} (h : i < Xl.length) : posRs Xl (i + 1) = posRs Xl i + wdRs Xl[i] := by
  unfold posRs
  rw [List.take_succ_eq_append_getElem h, List.map_append, List.sum_append]
  simp
theorem posRs_le {Xl : List Rs} (_hn : RssSmall Xl) : ∀ {i : Nat}, i ≤ Xl.length → posRs Xl i ≤ i * 3000000 := by
  intro i
  induction i with
  | zero => intro _; simp [posRs]
  | succ i ih =>
    intro hi'
    have h1 := ih (by omega)
    rw [posRs_succ (by omega)]
    have h2 : wdRs Xl[i] ≤ 3000000 := by
      unfold wdRs
      omega
    omega
theorem posRs_all {Xl : List Rs} {i : Nat} (h : Xl.length ≤ i) : posRs Xl i = posRs Xl Xl.length := by
  unfold posRs
  rw [List.take_of_length_le h, List.take_of_length_le (Nat.le_refl _)]
structure RsSt (wr : World) (b o c0 c1 : Nat) (v : World) (y : Rs) : Prop where
  near : Near b o 2 c0 c1 wr v
  bc : b < c0
  cells : RsCells v b o y
  frz : ∀ i, v.frozen? ⟨b, i, none⟩ = false
  lt : b < v.heap.size
theorem RsSt.below {wr : World} {b o c0 c1 : Nat} {v v' : World} {y : Rs} (h : RsSt wr b o c0 c1 v y) (hb : Below v.heap.size v v') : RsSt wr b o c0 c1 v' y :=
  ⟨h.near.trans (Near.below hb h.lt), h.bc, h.cells.below hb h.lt, fun i => (hb.frozen (p := ⟨b, i, none⟩) h.lt).trans (h.frz i), Nat.lt_of_lt_of_le h.lt hb.size⟩
theorem RsSt.s0 {wr : World} {b o c0 c1 : Nat} {v : World} {y : Rs} (h : RsSt wr b o c0 c1 v y) (u : Int) : RsSt wr b o c0 c1 (v.setCell ⟨b, o, none⟩ (.int .i64 u)) { y with ba := u } := by
  obtain ⟨h0, h1⟩ := h.cells
  have ht : Touch b (b + 1) v (v.setCell ⟨b, o, none⟩ (.int .i64 u)) := Touch.setCell _ _ _ _ _ ⟨Nat.le_refl _, by simp only []; omega⟩
  have hbc := h.bc
  exact ⟨h.near.trans (Near.set _ _ _ _ _ _ _ _ (by omega) (by omega)), h.bc, ⟨World.cell?_setCell_same' _ _ _ (by rw [h0]; rfl), (cne (by omega)).trans h1⟩, fun i => by rw [World.frozen?_setCell]; exact h.frz i, by simpa [World.setCell] using h.lt⟩
theorem RsSt.s1 {wr : World} {b o c0 c1 : Nat} {v : World} {y : Rs} (h : RsSt wr b o c0 c1 v y) (u : ByteArray) : RsSt wr b o c0 c1 (v.setCell ⟨b, o + 1, none⟩ (.string u)) { y with tx := u } := by
  obtain ⟨h0, h1⟩ := h.cells
  have ht : Touch b (b + 1) v (v.setCell ⟨b, o + 1, none⟩ (.string u)) := Touch.setCell _ _ _ _ _ ⟨Nat.le_refl _, by simp only []; omega⟩
  have hbc := h.bc
  exact ⟨h.near.trans (Near.set _ _ _ _ _ _ _ _ (by omega) (by omega)), h.bc, ⟨(cne (by omega)).trans h0, World.cell?_setCell_same' _ _ _ (by rw [h1]; rfl)⟩, fun i => by rw [World.frozen?_setCell]; exact h.frz i, by simpa [World.setCell] using h.lt⟩
end Go.Proofs.YtlednecohppljaaGreat
