import Derived.Test.YtfbfgljkiikabaaV00
import Derived.BigQuiet
import Derived.Deep.MidRow
import Derived.Deep.RegionHeld3
import Derived.Deep.DeepCutAuto
import Derived.Laws.IdiomStrings
import Derived.Laws.Concat
import Derived.Deep.RegionWith
namespace Go.Proofs.Ytfbfgljkiikabaa
open Go.RowKit Go.Deep

/-- the worlds of a class -/
structure In (C : World → Prop) where
  w : World
  h : C w
/-- a region that draws, walked once in the order of the text, every operation staying inside a class of worlds -/
theorem wp_region_class {P : Program} {id : Nat} {Q : Exit → Act → World → Prop} {a : Act} {w : World} {l : List Oper} (C : World → Prop) (hm : P.follows .mixedOrders = true) (hB : Region.lexB .any l.toArray = true) (hC : C w.drew)
    (h : wpQuiet P l.toArray (fun w' => ∃ X : In C, w' = X.w) (fun a' => ∀ w', (∃ X : In C, w' = X.w) → Q .normal a' w') l a) : (Code.region id l.toArray true).wp P Q a w :=
  wp_region_quiet (C := fun w' => ∃ X : In C, w' = X.w) hm hB ⟨⟨_, hC⟩, rfl⟩ (by simpa using h)
theorem in_self {C : World → Prop} (X : In C) : (∃ Y : In C, X.w = Y.w) = True := eq_true ⟨X, rfl⟩
/-- two boxes, and memory that is only added to -/
structure Cls (W0 : World) (b1 : Nat) (cs1 : Array Value) (b2 : Nat) (cs2 : Array Value) (W : World) : Prop where
  on : Below W0.heap.size W0 W
  x1 : Box W0 b1 cs1
  x2 : Box W0 b2 cs2
theorem Cls.c1 {W0 : World} {b1 : Nat} {cs1 : Array Value} {b2 : Nat} {cs2 : Array Value} (X : In (Cls W0 b1 cs1 b2 cs2)) (i : Nat) : X.w.cell? ⟨b1, i, none⟩ = cs1[i]? := (X.h.x1.on X.h.on).cell i
theorem Cls.c2 {W0 : World} {b1 : Nat} {cs1 : Array Value} {b2 : Nat} {cs2 : Array Value} (X : In (Cls W0 b1 cs1 b2 cs2)) (i : Nat) : X.w.cell? ⟨b2, i, none⟩ = cs2[i]? := (X.h.x2.on X.h.on).cell i
theorem Cls.next {W0 : World} {b1 : Nat} {cs1 : Array Value} {b2 : Nat} {cs2 : Array Value} (X : In (Cls W0 b1 cs1 b2 cs2)) {W' : World} (h : Below X.w.heap.size X.w W') : ∃ Y : In (Cls W0 b1 cs1 b2 cs2), W' = Y.w :=
  ⟨⟨W', ⟨X.h.on.trans (h.mono X.h.on.size), X.h.x1, X.h.x2⟩⟩, rfl⟩
abbrev Up (W0 : World) : World → Prop := fun W => Below W0.heap.size W0 W
theorem Up.cell {W0 : World} (X : In (Up W0)) {p : Addr} {v : Value} (h : W0.cell? p = some v) : X.w.cell? p = some v :=
  (Below.cell (show Below W0.heap.size W0 X.w from X.h) (World.block_lt_of_cell? W0 _ h)).trans h
theorem Up.next {W0 : World} (X : In (Up W0)) {W' : World} (h : Below X.w.heap.size X.w W') : ∃ Y : In (Up W0), W' = Y.w :=
  ⟨⟨W', X.h.trans (h.mono X.h.size)⟩, rfl⟩
theorem Up.same {W0 : World} (X : In (Up W0)) {W' : World} (h : W' = X.w) : ∃ Y : In (Up W0), W' = Y.w := ⟨X, h⟩
/-! ranges of cells -/
theorem rng_below {w w' : World} {m b o : Nat} {cs : List Value} (h : w.rangeAt b o cs) (hb : Below m w w') (hlt : b < m) : w'.rangeAt b o cs := fun j v hv => by
  rw [hb.cell (p := ⟨b, o + j, none⟩) hlt]; exact h j v hv
theorem rng_set {w : World} {b o : Nat} {cs : List Value} (h : w.rangeAt b o cs) {p : Addr} (hp : b ≠ p.block) (u : Value) : (w.setCell p u).rangeAt b o cs := fun j v hv => by
  rw [cell_setCell_ne _ _ _ _ hp]; exact h j v hv
theorem there_below {w w' : World} {m b o n : Nat} (h : w.there b o n) (hb : Below m w w') (hlt : b < m) : w'.there b o n := fun j hj => by
  rw [hb.cell (p := ⟨b, o + j, none⟩) hlt, hb.frozen (p := ⟨b, o + j, none⟩) hlt]; exact h j hj
theorem there_part {w : World} {b n m o : Nat} (h : w.there b 0 n) (hle : o + m ≤ n) : w.there b o m := fun j hj => by
  have := h (o + j) (by omega)
  rwa [Nat.zero_add] at this
theorem size_sets (b : Nat) : ∀ (vs : List Value) (o : Nat) (w : World), (w.setCells b o vs).heap.size = w.heap.size
  | [], _, _ => rfl
  | v :: vs, o, w => (size_sets b vs (o + 1) (w.setCell ⟨b, o, none⟩ v)).trans (by simp [World.setCell])
theorem Below.sets {n b : Nat} (hb : n ≤ b) : ∀ (vs : List Value) (o : Nat) {a w : World}, Below n a w → Below n a (w.setCells b o vs)
  | [], _, _, _, h => h
  | v :: vs, o, _, _, h => Below.sets hb vs (o + 1) (h.setCell hb v)
theorem there_made (w : World) (C : Array Value) (t : TypeId) (n : Nat) (hn : C.size = n) : (w.alloc (.cells C t)).there w.heap.size 0 n := fun j hj => by
  have := World.rowIs_alloc w C t (fun i => C.getD i default) (fun i hi => by simp [Array.getD, hi])
  rw [Nat.zero_add]
  exact ⟨by rw [this.cell (by omega)]; rfl, this.frozen j⟩
/-- a struct's load in a quiet walk -/
theorem wpQuiet_load_mid {P : Program} {ops : Array Oper} {C : World → Prop} {Q : Act → Prop} {a : Act} {o : Oper} {rest : List Oper} (hw : Region.wanted o (yielded ops a.tmps) = true) (ty : TypeId) (x : Operand) (ho : o.op = .load ty x)
    (b off : Nat) (hx : a.eval x = .pointer (some ⟨b, off, none⟩)) (cs : List Value) (d : TypeDesc) (hC : ∀ w, C w → w.rangeAt b off cs)
    (hu : P.underlying ty = some d) (hd : d.isRow = true) (hi : (P.info? ty).map (·.size) = some cs.length)
    (h : wpQuiet P ops C Q rest (a.put o.dst (.agg cs.toArray))) : wpQuiet P ops C Q (o :: rest) a :=
  BigFrame.wpQuiet_want hw fun K hK => ⟨.agg cs.toArray, fun w hw' => by
    unfold Oper.quietAt execOp
    simp only [ho, hx, Instr.loadAt, Instr.sureAddr, Sem.run_bind, Sem.run_pure, Result.andThen_ok, run_loadVar_mid w b off ty cs d (hC w hw') hu hd hi, Oper.quietUpon, and_self], hK _ h⟩
/-- a struct's load that is guarded, in a plain region -/
theorem wpList_load_gd {P : Program} {ops : Array Oper} {rest : List Oper} {op : Oper} {a : Act} {w : World} {Q : Exit → Act → World → Prop} (hw : Region.wanted op (yielded ops a.tmps) = true) (ty : TypeId) (x : Operand) (ho : op.op = .load ty x)
    (b o : Nat) (hx : a.eval x = .pointer (some ⟨b, o, none⟩)) (cs : List Value) (d : TypeDesc) (hc : w.rangeAt b o cs)
    (hu : P.underlying ty = some d) (hd : d.isRow = true) (hi : (P.info? ty).map (·.size) = some cs.length)
    (h : wpList P ops Q rest (a.put op.dst (.agg cs.toArray)) w) : wpList P ops Q (op :: rest) a w :=
  BigFrame.wpList_want hw fun _ hK => wp_load_mid ty x ho b o hx cs d hc hu hd hi (hK _ _ h)
theorem Box.there {w : World} {β n : Nat} {cs : Array Value} (h : Box w β cs) (hn : cs.size = n) : w.there β 0 n := fun j hj => by
  rw [Nat.zero_add, h.cell j, h.free j]
  exact ⟨by rw [Array.getElem?_eq_getElem (by omega)]; rfl, rfl⟩
theorem Box.range {w : World} {β : Nat} {cs : Array Value} (h : Box w β cs) {l : List Value} (hl : cs = l.toArray) : w.rangeAt β 0 l := fun j v hv => by
  rw [Nat.zero_add, h.cell j, hl]
  simpa using hv
theorem Box.full {w : World} {β : Nat} {cs cs' : Array Value} (h : Box w β cs) (hs : cs.size = cs'.size) : Box (w.setCells β 0 cs'.toList) β cs' := by
  refine ⟨by rw [size_sets]; exact h.lt, fun i => ?_, fun i => by rw [World.frozen?_setCells]; exact h.free i⟩
  by_cases hi : i < cs'.size
  · have := World.cell?_setCells_in β cs'.toList 0 w (fun j hj => (h.there rfl j (by rw [hs]; simpa using hj)).1) i (by simpa using hi)
    rw [Nat.zero_add] at this
    rw [this, Array.getElem?_eq_getElem hi]
    simp
  · rw [World.cell?_setCells_out β cs'.toList 0 w ⟨β, i, none⟩ (fun _ _ => Or.inr (by simp; omega)), h.cell i, Array.getElem?_eq_none (by omega), Array.getElem?_eq_none (by omega)]
end Go.Proofs.Ytfbfgljkiikabaa
namespace Go.Proofs.Ytfbfgljkiikabaa
open Go.RowKit Go.Deep

/-- the digits of a number, ahead of what there is -/
def digs : Nat → Nat → List UInt8 → List UInt8
  | 0, _, acc => acc
  | f + 1, k, acc => if k = 0 then acc else digs f (k / 10) (UInt8.ofNat (48 + k % 10) :: acc)
theorem digs_zero (f : Nat) (acc : List UInt8) : digs f 0 acc = acc := by cases f <;> simp [digs]
theorem digs_fuel (k : Nat) : ∀ f acc, k ≤ f → digs f k acc = digs k k acc := by
  induction k using Nat.strongRecOn with
  | _ k ih =>
    intro f acc hf
    by_cases h0 : k = 0
    · subst h0; rw [digs_zero, digs_zero]
    · obtain ⟨f', rfl⟩ : ∃ f', f = f' + 1 := ⟨f - 1, by omega⟩
      obtain ⟨k', rfl⟩ : ∃ k', k = k' + 1 := ⟨k - 1, by omega⟩
      have h1 : (k' + 1) / 10 < k' + 1 := by omega
      rw [show digs (f' + 1) (k' + 1) acc = digs f' ((k' + 1) / 10) (UInt8.ofNat (48 + (k' + 1) % 10) :: acc) from by simp [digs],
        show digs (k' + 1) (k' + 1) acc = digs k' ((k' + 1) / 10) (UInt8.ofNat (48 + (k' + 1) % 10) :: acc) from by simp [digs]]
      rw [ih _ h1 f' _ (by omega), ih _ h1 k' _ (by omega)]
theorem digs_step (k : Nat) (acc : List UInt8) (h : 0 < k) : digs k k acc = digs (k / 10) (k / 10) (UInt8.ofNat (48 + k % 10) :: acc) := by
  obtain ⟨k', rfl⟩ : ∃ k', k = k' + 1 := ⟨k - 1, by omega⟩
  rw [show digs (k' + 1) (k' + 1) acc = digs k' ((k' + 1) / 10) (UInt8.ofNat (48 + (k' + 1) % 10) :: acc) from by simp [digs]]
  exact digs_fuel _ _ _ (by omega)
/-- the mark of a number -/
def mtB (k : Int) : ByteArray := if k ≤ 0 then ⟨#[109, 48]⟩ else ⟨(109 :: digs k.toNat k.toNat []).toArray⟩

set_option maxRecDepth 20000 in
set_option maxHeartbeats 400000 in
theorem markText_any (k : Int) (w : World) (hk : k ≤ 4000000000000000000) :
    Calls Try.prog 89 #[.int .i64 k] w fun e w' => e = .returned (.string (mtB k)) ∧ Below w.heap.size w w' := by
  by_cases h0 : k ≤ 0
  · go_enter Try.func89, Try.ntmps89
    go_wp2
    go_ret
    exact ⟨by unfold mtB; rw [if_pos h0]; rfl, Below.refl _ _⟩
  · obtain ⟨n, rfl⟩ := Int.eq_ofNat_of_zero_le (show 0 ≤ k by omega)
    go_enter Try.func89, Try.ntmps89
    go_wp2
    go_loopw [0, 3] (fun q o wr => ∃ (j : Nat) (l : List UInt8), q = .int .i64 j ∧ o = .string ⟨l.toArray⟩ ∧ l.length + j ≤ n ∧ Below w.heap.size w wr ∧ Hid (digs j j l = digs n n [])) (fun q _ _ => (intOf q).toNat)
    case atStart => exact ⟨n, [], rfl, rfl, by simp, Below.refl _ _, rfl⟩
    case round =>
      obtain ⟨j, l, rfl, rfl, hl, hb, hd⟩ := hrel
      by_cases hj : 0 < j
      · have hn8 : (UInt8.ofNat (48 + j % 10)).toNat = 48 + j % 10 := by rw [UInt8.toNat_ofNat']; omega
        have hcv : (convert 123 9 (.slice (some ⟨wr.heap.size, 0, none⟩) 1 1)).run Try.prog (wr.alloc (.cells #[.int .u8 (48 + (j : Int) % 10)] 5)) = .ok (.string ⟨#[UInt8.ofNat (48 + j % 10)]⟩) (wr.alloc (.cells #[.int .u8 (48 + (j : Int) % 10)] 5)) := by
          have := run_convert_bytes_back (P := Try.prog) (wr.alloc (.cells #[.int .u8 (48 + (j : Int) % 10)] 5)) 123 9 5 ⟨wr.heap.size, 0, none⟩ 1 [UInt8.ofNat (48 + j % 10)] Try.underlying123 Try.underlying5 Try.underlying9 (fun i hi => by
            have e : i = 0 := by simp at hi; omega
            subst e
            simp only [List.getElem_cons_zero, hn8]
            simp [Addr.add])
          exact this
        have had : ∀ W, (Op.stringOp .add ⟨#[UInt8.ofNat (48 + j % 10)]⟩ ⟨l.toArray⟩).run Try.prog W = .ok (.string ⟨(UInt8.ofNat (48 + j % 10) :: l).toArray⟩) W := fun W => by
          have := run_string_add_sum (P := Try.prog) (w := W) ⟨#[UInt8.ofNat (48 + j % 10)]⟩ ⟨l.toArray⟩ (by simp [ByteArray.size]; omega)
          rw [this]
          rfl
        have HD : Hid (digs (j / 10) (j / 10) (UInt8.ofNat (48 + j % 10) :: l) = digs n n []) := by unfold Hid; rw [← digs_step j l hj]; exact hd
        have HB := hide hb
        clear hn8 hd hb
        generalize UInt8.ofNat (48 + j % 10) = dg at *
        go_wp2
        go_roundw
        case rel => exact ⟨j / 10, dg :: l, by go_num, rfl, by simp; omega, HB.out.alloc HB.out.size _, HD⟩
        case measure => simp [intOf]; omega
      · have had : ∀ W, (Op.stringOp .add ⟨#[109]⟩ ⟨l.toArray⟩).run Try.prog W = .ok (.string ⟨(109 :: l).toArray⟩) W := fun W => by
          have := run_string_add_sum (P := Try.prog) (w := W) ⟨#[109]⟩ ⟨l.toArray⟩ (by simp [ByteArray.size]; omega)
          rw [this]
          rfl
        have HM : Hid (mtB n = ⟨(109 :: l).toArray⟩) := by
          have e : j = 0 := by omega
          subst e
          unfold Hid mtB
          rw [if_neg (by omega), Int.toNat_natCast, ← hd, digs_zero]
        clear hd
        go_wp2
        go_ret
        exact ⟨by rw [HM.out]; rfl, hb⟩

theorem mt_size (k : Int) (hk : k ≤ 4000000000000000000) : (mtB k).size ≤ maxLen := by
  unfold mtB
  by_cases h : k ≤ 0
  · rw [if_pos h]; simp [ByteArray.size, maxLen]
  · rw [if_neg h]
    have : ∀ (f j : Nat) (l : List UInt8), (digs f j l).length ≤ l.length + f := by
      intro f
      induction f with
      | zero => intro j l; simp [digs]
      | succ f ih =>
        intro j l
        rw [digs]
        by_cases h0 : j = 0
        · rw [if_pos h0]; omega
        · rw [if_neg h0]
          have := ih (j / 10) (UInt8.ofNat (48 + j % 10) :: l)
          simp only [List.length_cons] at this; omega
    have := this k.toNat k.toNat []
    simp [ByteArray.size, maxLen] at *
    omega
/-- ONLY THE BLOCKS FROM lo TO hi MAY HAVE TURNED; new ones may have come. -/
structure Touch (lo hi : Nat) (w w' : World) : Prop where
  os : w'.os = w.os
  tape : w'.tape = w.tape
  output : w'.output = w.output
  size : w.heap.size ≤ w'.heap.size
  block : ∀ k, k < w.heap.size → (k < lo ∨ hi ≤ k) → w'.heap[k]? = w.heap[k]?
theorem Touch.refl (lo hi : Nat) (w : World) : Touch lo hi w w := ⟨rfl, rfl, rfl, Nat.le_refl _, fun _ _ _ => rfl⟩
theorem Touch.trans {lo hi : Nat} {a b c : World} (h : Touch lo hi a b) (k : Touch lo hi b c) : Touch lo hi a c :=
  ⟨k.os.trans h.os, k.tape.trans h.tape, k.output.trans h.output, Nat.le_trans h.size k.size, fun i hi' ho => (k.block i (Nat.lt_of_lt_of_le hi' h.size) ho).trans (h.block i hi' ho)⟩
theorem Touch.below {lo hi : Nat} {a b : World} (h : Below a.heap.size a b) : Touch lo hi a b := ⟨h.os, h.tape, h.output, h.size, fun k hk _ => h.block k hk⟩
theorem Touch.setCell (lo hi : Nat) (w : World) (p : Addr) (u : Value) (h : lo ≤ p.block ∧ p.block < hi) : Touch lo hi w (w.setCell p u) :=
  ⟨rfl, rfl, rfl, by simp [World.setCell], fun k _ ho => Below.heap_setCell _ _ _ _ (by omega)⟩
theorem Touch.cell {lo hi : Nat} {w w' : World} (h : Touch lo hi w w') {p : Addr} (hp : p.block < w.heap.size) (ho : p.block < lo ∨ hi ≤ p.block) : w'.cell? p = w.cell? p := World.cell?_of_block (w := w) (h.block p.block hp ho)
theorem Touch.frozen {lo hi : Nat} {w w' : World} (h : Touch lo hi w w') {p : Addr} (hp : p.block < w.heap.size) (ho : p.block < lo ∨ hi ≤ p.block) : w'.frozen? p = w.frozen? p := World.frozen?_of_block (w := w) (h.block p.block hp ho)
theorem Touch.wide {lo hi lo' hi' : Nat} {a b : World} (h : Touch lo hi a b) (h1 : lo' ≤ lo) (h2 : hi ≤ hi') : Touch lo' hi' a b := ⟨h.os, h.tape, h.output, h.size, fun k hk ho => h.block k hk (by omega)⟩
/-- what was touched from lo on leaves all below as it was -/
theorem Touch.under {lo hi : Nat} {a b : World} (h : Touch lo hi a b) (hl : lo ≤ a.heap.size) : Below lo a b := ⟨h.os, h.tape, h.output, h.size, fun k hk => h.block k (by omega) (Or.inl hk)⟩

/-! books of one's own: only some cells of a block, and the blocks of an interval, may have turned -/
structure Near (b o n lo hi : Nat) (w w' : World) : Prop where
  os : w'.os = w.os
  tape : w'.tape = w.tape
  output : w'.output = w.output
  size : w.heap.size ≤ w'.heap.size
  block : ∀ k, k < w.heap.size → k ≠ b → (k < lo ∨ hi ≤ k) → w'.heap[k]? = w.heap[k]?
  cell : ∀ i, (i < o ∨ o + n ≤ i) → w'.cell? ⟨b, i, none⟩ = w.cell? ⟨b, i, none⟩
  frz : ∀ i, w'.frozen? ⟨b, i, none⟩ = w.frozen? ⟨b, i, none⟩
theorem Near.refl (b o n lo hi : Nat) (w : World) : Near b o n lo hi w w := ⟨rfl, rfl, rfl, Nat.le_refl _, fun _ _ _ _ => rfl, fun _ _ => rfl, fun _ => rfl⟩
theorem Near.trans {b o n lo hi : Nat} {u v w : World} (h : Near b o n lo hi u v) (k : Near b o n lo hi v w) : Near b o n lo hi u w :=
  ⟨k.os.trans h.os, k.tape.trans h.tape, k.output.trans h.output, Nat.le_trans h.size k.size, fun i hi' hb ho => (k.block i (Nat.lt_of_lt_of_le hi' h.size) hb ho).trans (h.block i hi' hb ho), fun i hi' => (k.cell i hi').trans (h.cell i hi'), fun i => (k.frz i).trans (h.frz i)⟩
theorem Near.below {b o n lo hi : Nat} {w w' : World} (h : Below w.heap.size w w') (hb : b < w.heap.size) : Near b o n lo hi w w' :=
  ⟨h.os, h.tape, h.output, h.size, fun k hk _ _ => h.block k hk, fun i _ => h.cell (p := ⟨b, i, none⟩) hb, fun i => h.frozen (p := ⟨b, i, none⟩) hb⟩
theorem Near.touch {b o n lo hi lo' hi' : Nat} {w w' : World} (h : Touch lo' hi' w w') (hb : b < w.heap.size) (h1 : lo ≤ lo') (h2 : hi' ≤ hi) (hx : b < lo' ∨ hi' ≤ b) : Near b o n lo hi w w' :=
  ⟨h.os, h.tape, h.output, h.size, fun k hk _ ho => h.block k hk (by omega), fun i _ => h.cell (p := ⟨b, i, none⟩) hb hx, fun i => h.frozen (p := ⟨b, i, none⟩) hb hx⟩
theorem Near.set (b o n lo hi : Nat) (w : World) (i : Nat) (u : Value) (h1 : o ≤ i) (h2 : i < o + n) : Near b o n lo hi w (w.setCell ⟨b, i, none⟩ u) :=
  ⟨rfl, rfl, rfl, by simp [World.setCell], fun k _ hb _ => Below.heap_setCell _ _ _ _ hb, fun j hj => by apply World.cell?_setCell_other; simp only [ne_eq, Addr.mk.injEq, not_and]; omega, fun j => by rw [World.frozen?_setCell]⟩
theorem Near.wide {b o n lo hi lo' hi' : Nat} {w w' : World} (h : Near b o n lo hi w w') (_hb : b < w.heap.size) (h1 : lo' ≤ lo) (h2 : hi ≤ hi') (hx : lo' ≤ b ∧ b < hi') : Touch lo' hi' w w' :=
  ⟨h.os, h.tape, h.output, h.size, fun k hk ho => h.block k hk (by omega) (by omega)⟩
theorem Near.out {b o n lo hi : Nat} {w w' : World} (h : Near b o n lo hi w w') {p : Addr} (hp : p.block < w.heap.size) (hb : p.block ≠ b) (ho : p.block < lo ∨ hi ≤ p.block) : w'.cell? p = w.cell? p ∧ w'.frozen? p = w.frozen? p :=
  ⟨World.cell?_of_block (w := w) (h.block p.block hp hb ho), World.frozen?_of_block (w := w) (h.block p.block hp hb ho)⟩
theorem cne {v : World} {b i j : Nat} {u : Value} (h : i ≠ j) : (v.setCell ⟨b, i, none⟩ u).cell? ⟨b, j, none⟩ = v.cell? ⟨b, j, none⟩ := by
  apply World.cell?_setCell_other
  simp only [ne_eq, Addr.mk.injEq, not_and]
  omega
theorem Touch.setB (B : Nat) (w : World) (i : Nat) (u : Value) : Touch B (B + 1) w (w.setCell ⟨B, i, none⟩ u) := Touch.setCell _ _ _ _ _ ⟨Nat.le_refl _, Nat.lt_succ_self _⟩
end Go.Proofs.Ytfbfgljkiikabaa
namespace Go.Proofs.Ytfbfgljkiikabaa
open Go.RowKit Go.Deep

def RiSize (x : Int) : Prop := x = x
def RisAt (lo : Nat) (w : World) (v : Value) (Xl : List Int) : Prop :=
  (∃ (a : Option Addr) (cap : Nat), v = .slice a 0 cap ∧ Xl = []) ∨
  ∃ (b off cap : Nat), v = .slice (some ⟨b, off, none⟩) Xl.length cap ∧ Xl ≠ [] ∧ Xl.length ≤ maxLen ∧ b < w.heap.size ∧ lo ≤ b ∧ Xl.length ≤ cap ∧
    ∀ i (h : i < Xl.length), RiSize Xl[i] ∧ w.cell? ⟨b, off + i, none⟩ = some (.int .i64 Xl[i])
theorem RisAt.below {lo : Nat} {w w' : World} {v : Value} {Xl : List Int} (h : RisAt lo w v Xl) (hb : Below w.heap.size w w') : RisAt lo w' v Xl := by
  rcases h with h | ⟨b, off, cap, h1, h2, h3, h4, h5, h6, h7⟩
  · exact Or.inl h
  · refine Or.inr ⟨b, off, cap, h1, h2, h3, Nat.lt_of_lt_of_le h4 hb.size, h5, h6, fun i hi => ⟨(h7 i hi).1, ?_⟩⟩
    rw [hb.cell (p := ⟨b, _, none⟩) h4]
    exact (h7 i hi).2
theorem RisAt.mono {lo lo' : Nat} {w : World} {v : Value} {Xl : List Int} (h : RisAt lo w v Xl) (hl : lo' ≤ lo) : RisAt lo' w v Xl := by
  rcases h with h | ⟨b, off, cap, h1, h2, h3, h4, h5, h6, h7⟩
  · exact Or.inl h
  · exact Or.inr ⟨b, off, cap, h1, h2, h3, h4, Nat.le_trans hl h5, h6, h7⟩
theorem RisAt.set {lo : Nat} {w : World} {v : Value} {Xl : List Int} (h : RisAt lo w v Xl) {p : Addr} (hp : p.block < lo) (u : Value) : RisAt lo (w.setCell p u) v Xl := by
  rcases h with h | ⟨b, off, cap, h1, h2, h3, h4, h5, h6, h7⟩
  · exact Or.inl h
  · refine Or.inr ⟨b, off, cap, h1, h2, h3, by simpa [World.setCell] using h4, h5, h6, fun i hi => ⟨(h7 i hi).1, ?_⟩⟩
    rw [cell_setCell_ne _ _ _ _ (by show b ≠ p.block; omega)]
    exact (h7 i hi).2
theorem RisAt.form {lo : Nat} {w : World} {v : Value} {Xl : List Int} (h : RisAt lo w v Xl) : ∃ a cap, v = .slice a Xl.length cap := by
  rcases h with ⟨a, cap, h, rfl⟩ | ⟨b, off, cap, h, _⟩
  · exact ⟨a, cap, h⟩
  · exact ⟨_, cap, h⟩
theorem RisAt.max {lo : Nat} {w : World} {v : Value} {Xl : List Int} (h : RisAt lo w v Xl) : Xl.length ≤ maxLen := by
  rcases h with ⟨a, cap, h, rfl⟩ | ⟨b, off, cap, h, _, h3, _⟩
  · exact Nat.zero_le _
  · exact h3
theorem RisAt.full {lo : Nat} {w : World} {v : Value} {Xl : List Int} (h : RisAt lo w v Xl) (hne : Xl ≠ []) : ∃ (b off cap : Nat), v = .slice (some ⟨b, off, none⟩) Xl.length cap ∧ Xl.length ≤ maxLen ∧ b < w.heap.size ∧ Xl.length ≤ cap ∧
    ∀ i (h : i < Xl.length), RiSize Xl[i] ∧ w.cell? ⟨b, off + i, none⟩ = some (.int .i64 Xl[i]) := by
  rcases h with ⟨_, _, _, h⟩ | ⟨b, off, cap, h1, _, h3, h4, _, h6, h7⟩
  · exact absurd h hne
  · exact ⟨b, off, cap, h1, h3, h4, h6, h7⟩
theorem RisAt.full' {lo : Nat} {w : World} {a : Option Addr} {n cap : Nat} {Xl : List Int} (h : RisAt lo w (.slice a n cap) Xl) (hL : 0 < Xl.length) :
    ∃ b off, a = some ⟨b, off, none⟩ ∧ b < w.heap.size ∧ lo ≤ b ∧ ∀ i (h : i < Xl.length), RiSize Xl[i] ∧ w.cell? ⟨b, off + i, none⟩ = some (.int .i64 Xl[i]) := by
  rcases h with ⟨a', cap', h, rfl⟩ | ⟨b', off', cap', h1, h2, h3, h4, h5, h6, h7⟩
  · simp at hL
  · injection h1 with e1 e2 e3
    exact ⟨b', off', e1, h4, h5, h7⟩
def RisSmall (Xl : List Int) : Prop := Xl.length ≤ 1048576
def SzRis (Xl : List Int) (left r : Int) : Prop := -1 ≤ r ∧ r ≤ left ∧ (0 ≤ r → RisSmall Xl)

set_option maxHeartbeats 1000000 in
theorem szRis_any (lo : Nat) (v : Value) (Xl : List Int) (left : Int) (w : World) (h0 : 0 ≤ left) (h1 : left ≤ 1048576) (hv : RisAt lo w v Xl) :
    Calls Try.prog 23 #[v, .int .i64 left] w fun e w' => ∃ r : Int, e = .returned (.int .i64 r) ∧ Below w.heap.size w w' ∧ SzRis Xl left r := by
  have hm := hv.max
  unfold maxLen at hm
  obtain ⟨a, cap, rfl⟩ := hv.form
  clear hv
  by_cases hle : (Xl.length : Int) ≤ left
  · go_enter Try.func23, Try.ntmps23
    go_wp2
    go_ret
    exact ⟨_, rfl, Below.refl _ _, by omega, by omega, fun _ => by unfold RisSmall; omega⟩
  · go_enter Try.func23, Try.ntmps23
    go_wp2
    go_ret
    exact ⟨-1, rfl, Below.refl _ _, by omega, by omega, fun h => by omega⟩

set_option maxHeartbeats 1000000 in
theorem eqRis_same (lo lo' : Nat) (v v' : Value) (Xl : List Int) (w : World) (hv : RisAt lo w v Xl) (hv' : RisAt lo' w v' Xl) :
    Calls Try.prog 42 #[v, v'] w fun e w' => e = .returned (.bool true) ∧ Below w.heap.size w w' := by
  by_cases hL : Xl = []
  · subst hL
    obtain ⟨a, cap, rfl⟩ := hv.form
    obtain ⟨a', cap', rfl⟩ := hv'.form
    clear hv hv'
    go_enter Try.func42, Try.ntmps42
    go_wp2
    go_loop [5] (fun i => i = .int .i64 0) (fun _ => 0)
    case atStart => rfl
    case round =>
      subst hrel
      go_wp2
      go_ret
      exact ⟨rfl, Below.refl _ _⟩
  · obtain ⟨b, off, cap, rfl, hm, hbw, _, hc⟩ := hv.full hL
    obtain ⟨b', off', cap', rfl, _, hbw', _, hc'⟩ := hv'.full hL
    clear hv hv'
    unfold maxLen at hm
    go_enter Try.func42, Try.ntmps42
    go_wp2
    go_loopw [5] (fun i wr => ∃ k : Nat, i = .int .i64 k ∧ k ≤ Xl.length ∧ Below w.heap.size w wr) (fun i _ => Xl.length - (intOf i).toNat)
    case atStart => exact ⟨0, rfl, by omega, Below.refl _ _⟩
    case round =>
      obtain ⟨k, rfl, hk, hb⟩ := hrel
      by_cases hlt : k < Xl.length
      · have c0 : wr.cell? ⟨b, off + k, none⟩ = some (.int .i64 Xl[k]) := by rw [hb.cell (p := ⟨b, _, none⟩) hbw]; exact (hc k hlt).2
        have d0 : wr.cell? ⟨b', off' + k, none⟩ = some (.int .i64 Xl[k]) := by rw [hb.cell (p := ⟨b', _, none⟩) hbw']; exact (hc' k hlt).2
        have HB := hide hb
        clear hb
        go_wp2
        try go_quiet (fail)
        try go_wp2
        go_roundw
        case rel => exact ⟨k + 1, by go_num, by omega, by first | exact HB.out | exact below_drewN HB.out _⟩
        case measure => simp [intOf]; omega
      · go_wp2
        go_ret
        exact ⟨rfl, hb⟩

theorem Try.infoRis : (Try.prog.info? 3).map (fun i => (i.zero, i.size, i.bytes)) = some (some (.int .i64 0), 1, 8) := by kernel_rfl
def RisFill (wr : World) (B : Nat) (Xl : List Int) (k : Nat) : Prop := ∃ f, wr.rowIs B 3 Xl.length f ∧ ∀ i (h : i < Xl.length), i < k → RiSize Xl[i] ∧ f i = .int .i64 Xl[i]
theorem RisFill.step {wr : World} {B : Nat} {Xl : List Int} {k : Nat} (h : RisFill wr B Xl k) (hk : k < Xl.length) (hz : RiSize Xl[k]) : RisFill (wr.setCell ⟨B, k, none⟩ (.int .i64 Xl[k])) B Xl (k + 1) := by
  obtain ⟨f, hr, hall⟩ := h
  refine ⟨_, hr.set _ _, fun i hi hik => ?_⟩
  by_cases e : i = k
  · subst e
    exact ⟨hz, by simp⟩
  · obtain ⟨hz', h0⟩ := hall i hi (by omega)
    exact ⟨hz', by rw [if_neg e]; exact h0⟩
theorem RisFill.done {wr : World} {B : Nat} {Xl : List Int} {k : Nat} (h : RisFill wr B Xl k) (hk : Xl.length ≤ k) (hne : Xl ≠ []) (hm : Xl.length ≤ maxLen) : RisAt B wr (.slice (some ⟨B, 0, none⟩) Xl.length Xl.length) Xl := by
  obtain ⟨f, hr, hall⟩ := h
  refine Or.inr ⟨B, 0, Xl.length, rfl, hne, hm, hr.lt, Nat.le_refl _, Nat.le_refl _, fun i hi => ?_⟩
  obtain ⟨hz, h0⟩ := hall i hi (by omega)
  exact ⟨hz, by rw [Nat.zero_add, hr.cell hi, h0]⟩
theorem RisFill.there {wr : World} {B : Nat} {Xl : List Int} {k : Nat} (h : RisFill wr B Xl k) (i : Nat) (hi : i < Xl.length) : ∃ v, wr.cell? ⟨B, i, none⟩ = some v := by
  obtain ⟨f, hr, _⟩ := h
  exact ⟨_, hr.cell hi⟩
theorem RisFill.free {wr : World} {B : Nat} {Xl : List Int} {k : Nat} (h : RisFill wr B Xl k) (i : Nat) : wr.frozen? ⟨B, i, none⟩ = false := by
  obtain ⟨f, hr, _⟩ := h
  exact hr.frozen i

set_option maxHeartbeats 1000000 in
theorem toRis_any (lo : Nat) (v : Value) (Xl : List Int) (w : World) (hv : RisAt lo w v Xl) (hn : RisSmall Xl) :
    Calls Try.prog 31 #[v] w fun e w' => ∃ v', e = .returned v' ∧ Below w.heap.size w w' ∧ RisAt w.heap.size w' v' Xl := by
  unfold RisSmall at hn
  by_cases hL : Xl = []
  · subst hL
    obtain ⟨a, cap, rfl⟩ := hv.form
    clear hv
    have hmk : ∀ u : World, (Instr.makeSlice 29 (.int .i64 0) (.int .i64 0)).run Try.prog u = .ok (.slice (some ⟨u.heap.size, 0, none⟩) 0 0) (u.alloc (.cells (madeCells #[.int .i64 0] 0) 3)) :=
      fun u => run_make_row' 29 3 (.int .i64 0) 8 Try.underlying29 Try.infoRis rfl .i64 .i64 0 (by omega) (by omega) u
    go_enter Try.func31, Try.ntmps31
    go_wp2
    go_loop [4] (fun i => i = .int .i64 0) (fun _ => 0)
    case atStart => rfl
    case round =>
      subst hrel
      go_wp2
      go_ret
      exact ⟨_, rfl, (Below.refl _ _).alloc (Nat.le_refl _) _, Or.inl ⟨_, _, rfl, rfl⟩⟩
  · obtain ⟨b, off, cap, rfl, hm, hbw, _, hc⟩ := hv.full hL
    clear hv
    have HM : Hid (Xl.length ≤ maxLen) := hm
    unfold maxLen at hm
    have hmk : ∀ u : World, (Instr.makeSlice 29 (.int .i64 (Xl.length : Int)) (.int .i64 (Xl.length : Int))).run Try.prog u = .ok (.slice (some ⟨u.heap.size, 0, none⟩) Xl.length Xl.length) (u.alloc (.cells (madeCells #[.int .i64 0] Xl.length) 3)) :=
      fun u => run_make_row' 29 3 (.int .i64 0) 8 Try.underlying29 Try.infoRis rfl .i64 .i64 Xl.length (by omega) (by omega) u
    go_enter Try.func31, Try.ntmps31
    go_wp2
    clear hmk
    go_loopw [4] (fun i wr => ∃ k : Nat, i = .int .i64 k ∧ k ≤ Xl.length ∧ Below w.heap.size w wr ∧ RisFill wr w.heap.size Xl k) (fun i _ => Xl.length - (intOf i).toNat)
    case atStart => exact ⟨0, rfl, by omega, (Below.refl _ _).alloc (Nat.le_refl _) _, ⟨_, World.rowIs_made w (.int .i64 0) Xl.length 3, fun i _ h => by omega⟩⟩
    case round =>
      obtain ⟨k, rfl, hk, hb, hf⟩ := hrel
      by_cases hlt : k < Xl.length
      · obtain ⟨hz, hck⟩ := hc k hlt
        rw [← hb.cell (p := ⟨b, off + k, none⟩) hbw] at hck
        obtain ⟨v0, hold⟩ := hf.there k hlt
        have hfz := hf.free k
        have HZ := hide hz
        have HF := hide hf
        have HB := hide hb
        clear hz hf hb
        go_wp2
        go_roundw
        case rel => exact ⟨k + 1, by go_num, by omega, HB.out.setCell (Nat.le_refl _) _, HF.out.step hlt HZ.out⟩
        case measure => simp [intOf]; omega
      · go_wp2
        go_ret
        exact ⟨_, rfl, hb, hf.done (by omega) hL HM.out⟩
end Go.Proofs.Ytfbfgljkiikabaa
namespace Go.Proofs.Ytfbfgljkiikabaa
open Go.RowKit Go.Deep

structure Ra where
  ix : Int
  fr : List Int
def RaSmall (U : Ra) : Prop := RisSmall U.fr
structure RaAt (lo : Nat) (w : World) (v0 : Value) (U : Ra) : Prop where
  l0 : RisAt lo w v0 U.fr
theorem RaAt.below {lo : Nat} {w w' : World} {v0 : Value} {U : Ra} (h : RaAt lo w v0 U) (hb : Below w.heap.size w w') : RaAt lo w' v0 U := ⟨h.l0.below hb⟩
theorem RaAt.mono {lo lo' : Nat} {w : World} {v0 : Value} {U : Ra} (h : RaAt lo w v0 U) (hl : lo' ≤ lo) : RaAt lo' w v0 U := ⟨h.l0.mono hl⟩
theorem RaAt.set {lo : Nat} {w : World} {v0 : Value} {U : Ra} (h : RaAt lo w v0 U) {p : Addr} (hp : p.block < lo) (u : Value) : RaAt lo (w.setCell p u) v0 U := ⟨h.l0.set hp u⟩
/-- its cells -/
def raL (U : Ra) (a0 : Option Addr) (k0 : Nat) : List Value := [.int .i64 U.ix, .slice a0 U.fr.length k0]
/-- its cells, and what they lead to -/
def RaC (lo : Nat) (w : World) (cs : List Value) (U : Ra) : Prop := ∃ a0 k0, cs = raL U a0 k0 ∧ RaAt lo w (.slice a0 U.fr.length k0) U
theorem RaC.below {lo : Nat} {w w' : World} {cs : List Value} {U : Ra} (h : RaC lo w cs U) (hb : Below w.heap.size w w') : RaC lo w' cs U := by
  obtain ⟨a0, k0, h1, h2⟩ := h
  exact ⟨a0, k0, h1, h2.below hb⟩
theorem RaC.mono {lo lo' : Nat} {w : World} {cs : List Value} {U : Ra} (h : RaC lo w cs U) (hl : lo' ≤ lo) : RaC lo' w cs U := by
  obtain ⟨a0, k0, h1, h2⟩ := h
  exact ⟨a0, k0, h1, h2.mono hl⟩
theorem RaC.set {lo : Nat} {w : World} {cs : List Value} {U : Ra} (h : RaC lo w cs U) {p : Addr} (hp : p.block < lo) (u : Value) : RaC lo (w.setCell p u) cs U := by
  obtain ⟨a0, k0, h1, h2⟩ := h
  exact ⟨a0, k0, h1, h2.set hp u⟩
theorem RaC.len {lo : Nat} {w : World} {cs : List Value} {U : Ra} (h : RaC lo w cs U) : cs.length = 2 := by
  obtain ⟨a0, k0, h1, h2⟩ := h
  rw [h1]; rfl
theorem RaC.one {lo : Nat} {w : World} {cs : List Value} {U : Ra} (h : RaC lo w cs U) : Array.all cs.toArray (·.oneCell') = true := by
  obtain ⟨a0, k0, h1, h2⟩ := h
  rw [h1]
  unfold raL
  simp [Value.oneCell']

set_option maxHeartbeats 8000000 in
theorem szRa_c (lo : Nat) (cs : List Value) (U : Ra) (left : Int) (w : World) (h0 : 0 ≤ left) (h1 : left ≤ 1048576) (h : RaC lo w cs U) :
    Calls Try.prog 60 #[.agg cs.toArray, .int .i64 left] w
      fun e w' => ∃ r : Int, e = .returned (.int .i64 r) ∧ Below w.heap.size w w' ∧ -1 ≤ r ∧ r ≤ left ∧ (0 ≤ r → RaSmall U) := by
  obtain ⟨a0, k0, rfl, h⟩ := h
  show Calls Try.prog 60 #[.agg #[.int .i64 U.ix, .slice a0 U.fr.length k0], .int .i64 left] w _
  have HL := hide h
  clear h
  go_enter Try.func60, Try.ntmps60
  go_wp2_with fail
  generalize hWa : w.alloc _ = Wa
  have HB : Hid (Below w.heap.size w Wa) := by unfold Hid; rw [← hWa]; exact one_al _ _
  have FX : Hid (Box Wa w.heap.size #[.int .i64 U.ix, .slice a0 U.fr.length k0]) := by unfold Hid; rw [← hWa]; exact Box.new _ _ _ _ rfl
  clear hWa
  refine (szRis_any lo _ U.fr _ _ (by omega) (by omega) ((HL.out.below HB.out).l0)).mono ?_
  rintro e w0 ⟨q0, rfl, hb, p0a, p0b, p0c⟩
  have Q0 := hide p0c
  replace HB := hide (bt HB.out hb)
  replace FX := hide (FX.out.on hb)
  clear hb p0c
  by_cases m0 : q0 < 0
  · go_wp2
    go_ret
    exact ⟨-1, rfl, HB.out, by omega, by omega, fun h => by omega⟩
  go_wp2
  go_ret
  exact ⟨_, rfl, HB.out, by omega, by omega, fun h => Q0.out (by omega)⟩

set_option maxHeartbeats 8000000 in
theorem eqRa_c (lo lo' : Nat) (cs cs' : List Value) (U : Ra) (w : World) (h : RaC lo w cs U) (h' : RaC lo' w cs' U) :
    Calls Try.prog 88 #[.agg cs.toArray, .agg cs'.toArray] w fun e w' => e = .returned (.bool true) ∧ Below w.heap.size w w' := by
  obtain ⟨a0, k0, rfl, h⟩ := h
  obtain ⟨d0, e0, rfl, h'⟩ := h'
  show Calls Try.prog 88 #[.agg #[.int .i64 U.ix, .slice a0 U.fr.length k0], .agg #[.int .i64 U.ix, .slice d0 U.fr.length e0]] w _
  have HL := hide h
  have HR := hide h'
  clear h h'
  go_enter Try.func88, Try.ntmps88
  go_wp2_with fail
  generalize hWa : (World.alloc (w.alloc _) _) = Wa
  have HB : Hid (Below w.heap.size w Wa) := by unfold Hid; rw [← hWa]; exact (one_al w _).alloc (by simp) _
  have FX : Hid (Box Wa w.heap.size #[.int .i64 U.ix, .slice a0 U.fr.length k0]) := by unfold Hid; rw [← hWa]; exact (Box.new _ _ _ _ rfl).on (one_al _ _)
  have FY : Hid (Box Wa (w.heap.size + 1) #[.int .i64 U.ix, .slice d0 U.fr.length e0]) := by unfold Hid; rw [← hWa]; exact Box.new _ _ _ _ (by simp)
  clear hWa
  refine (eqRis_same lo lo' _ _ U.fr _ ((HL.out.below HB.out).l0) ((HR.out.below HB.out).l0)).mono ?_
  rintro e w0 ⟨rfl, hb⟩
  replace HB := hide (bt HB.out hb)
  replace FX := hide (FX.out.on hb)
  replace FY := hide (FY.out.on hb)
  clear hb
  have g0 := FX.out.cell
  have g1 := FY.out.cell
  go_wp2
  go_ret
  exact ⟨rfl, HB.out⟩

set_option maxRecDepth 20000 in
set_option maxHeartbeats 16000000 in
theorem toRa_c (lo : Nat) (cs : List Value) (U : Ra) (w : World) (h : RaC lo w cs U) (hn : RaSmall U) :
    Calls Try.prog 71 #[.agg cs.toArray] w
      fun e w' => ∃ cs', e = .returned (.agg cs'.toArray) ∧ Below w.heap.size w w' ∧ RaC w.heap.size w' cs' U := by
  obtain ⟨a0, k0, rfl, h⟩ := h
  show Calls Try.prog 71 #[.agg #[.int .i64 U.ix, .slice a0 U.fr.length k0]] w _
  have HL := hide h
  have hn0 := hn
  clear h
  go_enter Try.func71, Try.ntmps71
  go_wp2_with fail
  obtain ⟨wz, hwz, FX, FR, FO, HB⟩ : ∃ wz, wz = ((w.alloc (.cells #[.int .i64 U.ix, .slice a0 U.fr.length k0] 87)).alloc (.cells #[.int .i64 0, .slice none 0 0] 100)).alloc (.cells #[.int .i64 U.ix, .slice none 0 0] 100) ∧
      Hid (Box wz w.heap.size #[.int .i64 U.ix, .slice a0 U.fr.length k0]) ∧ Hid (Box wz (w.heap.size + 1) #[.int .i64 0, .slice none 0 0]) ∧ Hid (Box wz (w.heap.size + 1 + 1) #[.int .i64 U.ix, .slice none 0 0]) ∧ Hid (Below w.heap.size w wz) :=
    ⟨_, rfl, ((Box.new w _ _ _ rfl).on (one_al _ _)).on (one_al _ _), (Box.new _ _ _ _ (by simp)).on (one_al _ _), Box.new _ _ _ _ (by simp), ((one_al _ _).trans ((one_al _ _).mono (by simp))).trans ((one_al _ _).mono (by simp; omega))⟩
  rw [← hwz]
  clear hwz
  generalize wz = v0 at *
  have hz0 : w.heap.size + 3 ≤ v0.heap.size := by have := FO.out.lt; omega
  refine (toRis_any lo _ U.fr _ ((HL.out.below HB.out).l0) hn0).mono ?_
  rintro e x0 ⟨u, rfl, hb, hs⟩
  obtain ⟨b0, m0, rfl⟩ := hs.form
  have N0 := hide (hs.mono hz0)
  replace FX := hide (FX.out.on hb)
  replace FR := hide (FR.out.on hb)
  replace FO := hide (FO.out.on hb)
  replace HB := hide (bt HB.out hb)
  clear hb hs hz0
  have g0 := FO.out.cell
  have g1 := FO.out.free
  have g2 := FR.out.cell
  have g3 := FR.out.free
  have g4 := FX.out.cell
  go_wp2
  refine bodyPost_ret (v := .agg #[.int .i64 U.ix, .slice b0 U.fr.length m0]) (by simp [results, Try.results71, go_sem, g2]) rfl ⟨raL U b0 m0, rfl, ?_, b0, m0, rfl, ⟨?_⟩⟩
  · repeat (refine Below.setCell ?_ (by simp only []; omega) _)
    exact HB.out
  · refine RisAt.mono (lo := w.heap.size + 3) ?_ (by omega)
    repeat (refine RisAt.set ?_ (by simp only []; omega) _)
    exact N0.out
end Go.Proofs.Ytfbfgljkiikabaa
