import Derived.Test.YtemggnmooiaokaaGreatD04
import Derived.Test.YtemggnmooiaokaaGreatD05
import Derived.BigQuiet
import Derived.Deep.MidRow
import Derived.Deep.RegionHeld3
import Derived.Deep.DeepCutAuto
import Derived.Laws.IdiomStrings
import Derived.Laws.Concat
import Derived.Deep.RegionWith
namespace Go.Proofs.YtemggnmooiaokaaGreat
open Go.RowKit Go.Deep

/-- the worlds of a class -/
structure In (C : World → Prop) where
  w : World
  h : C w
/-- a region that draws, walked once in the order of the text, every operation staying inside a class of worlds -/
theorem wp_region_class {P : Program} {id : Nat} {Q : Exit → Act → World → Prop} {a : Act} {w : World} {l : List Oper} (C : World → Prop) (hm : P.follows .mixedOrders = true) (hB : Region.lexB .any l.toArray = true) (hC : C w.drew)
    (h : wpQuiet P l.toArray (fun w' => ∃ X : In C, w' = X.w) (fun a' => ∀ w', (∃ X : In C, w' = X.w) → Q .normal a' w') l a) : (Code.region id l.toArray true).wp P Q a w :=
  wp_region_quiet (C := fun w' => ∃ X : In C, w' = X.w) hm hB ⟨⟨_, hC⟩, rfl⟩ (by simpa using h)
theorem in_self {C : World → Prop} (X : In C) : (∃ Y : In C, X.w = Y.w) = True := eq_true ⟨X, rfl⟩
/-- two boxes, and memory that is only added to -/
structure Cls (W0 : World) (b1 : Nat) (cs1 : Array Value) (b2 : Nat) (cs2 : Array Value) (W : World) : Prop where
  on : Below W0.heap.size W0 W
  x1 : Box W0 b1 cs1
  x2 : Box W0 b2 cs2
theorem Cls.c1 {W0 : World} {b1 : Nat} {cs1 : Array Value} {b2 : Nat} {cs2 : Array Value} (X : In (Cls W0 b1 cs1 b2 cs2)) (i : Nat) : X.w.cell? ⟨b1, i, none⟩ = cs1[i]? := (X.h.x1.on X.h.on).cell i
theorem Cls.c2 {W0 : World} {b1 : Nat} {cs1 : Array Value} {b2 : Nat} {cs2 : Array Value} (X : In (Cls W0 b1 cs1 b2 cs2)) (i : Nat) : X.w.cell? ⟨b2, i, none⟩ = cs2[i]? := (X.h.x2.on X.h.on).cell i
theorem Cls.next {W0 : World} {b1 : Nat} {cs1 : Array Value} {b2 : Nat} {cs2 : Array Value} (X : In (Cls W0 b1 cs1 b2 cs2)) {W' : World} (h : Below X.w.heap.size X.w W') : ∃ Y : In (Cls W0 b1 cs1 b2 cs2), W' = Y.w :=
  ⟨⟨W', ⟨X.h.on.trans (h.mono X.h.on.size), X.h.x1, X.h.x2⟩⟩, rfl⟩
abbrev Up (W0 : World) : World → Prop := fun W => Below W0.heap.size W0 W
theorem Up.cell {W0 : World} (X : In (Up W0)) {p : Addr} {v : Value} (h : W0.cell? p = some v) : X.w.cell? p = some v :=
  (Below.cell (show Below W0.heap.size W0 X.w from X.h) (World.block_lt_of_cell? W0 _ h)).trans h
theorem Up.next {W0 : World} (X : In (Up W0)) {W' : World} (h : Below X.w.heap.size X.w W') : ∃ Y : In (Up W0), W' = Y.w :=
  ⟨⟨W', X.h.trans (h.mono X.h.size)⟩, rfl⟩
theorem Up.same {W0 : World} (X : In (Up W0)) {W' : World} (h : W' = X.w) : ∃ Y : In (Up W0), W' = Y.w := ⟨X, h⟩
/-! ranges of cells -/
theorem rng_below {w w' : World} {m b o : Nat} {cs : List Value} (h : w.rangeAt b o cs) (hb : Below m w w') (hlt : b < m) : w'.rangeAt b o cs := fun j v hv => by
  rw [hb.cell (p := ⟨b, o + j, none⟩) hlt]; exact h j v hv
theorem rng_set {w : World} {b o : Nat} {cs : List Value} (h : w.rangeAt b o cs) {p : Addr} (hp : b ≠ p.block) (u : Value) : (w.setCell p u).rangeAt b o cs := fun j v hv => by
  rw [cell_setCell_ne _ _ _ _ hp]; exact h j v hv
theorem there_below {w w' : World} {m b o n : Nat} (h : w.there b o n) (hb : Below m w w') (hlt : b < m) : w'.there b o n := fun j hj => by
  rw [hb.cell (p := ⟨b, o + j, none⟩) hlt, hb.frozen (p := ⟨b, o + j, none⟩) hlt]; exact h j hj
theorem there_part {w : World} {b n m o : Nat} (h : w.there b 0 n) (hle : o + m ≤ n) : w.there b o m := fun j hj => by
  have := h (o + j) (by omega)
  rwa [Nat.zero_add] at this
theorem size_sets (b : Nat) : ∀ (vs : List Value) (o : Nat) (w : World), (w.setCells b o vs).heap.size = w.heap.size
  | [], _, _ => rfl
  | v :: vs, o, w => (size_sets b vs (o + 1) (w.setCell ⟨b, o, none⟩ v)).trans (by simp [World.setCell])
theorem Below.sets {n b : Nat} (hb : n ≤ b) : ∀ (vs : List Value) (o : Nat) {a w : World}, Below n a w → Below n a (w.setCells b o vs)
  | [], _, _, _, h => h
  | v :: vs, o, _, _, h => Below.sets hb vs (o + 1) (h.setCell hb v)
theorem there_made (w : World) (C : Array Value) (t : TypeId) (n : Nat) (hn : C.size = n) : (w.alloc (.cells C t)).there w.heap.size 0 n := fun j hj => by
  have := World.rowIs_alloc w C t (fun i => C.getD i default) (fun i hi => by simp [Array.getD, hi])
  rw [Nat.zero_add]
  exact ⟨by rw [this.cell (by omega)]; rfl, this.frozen j⟩
/-- a struct's load in a quiet walk -/
theorem wpQuiet_load_mid {P : Program} {ops : Array Oper} {C : World → Prop} {Q : Act → Prop} {a : Act} {o : Oper} {rest : List Oper} (hw : Region.wanted o (yielded ops a.tmps) = true) (ty : TypeId) (x : Operand) (ho : o.op = .load ty x)
    (b off : Nat) (hx : a.eval x = .pointer (some ⟨b, off, none⟩)) (cs : List Value) (d : TypeDesc) (hC : ∀ w, C w → w.rangeAt b off cs)
    (hu : P.underlying ty = some d) (hd : d.isRow = true) (hi : (P.info? ty).map (·.size) = some cs.length)
    (h : wpQuiet P ops C Q rest (a.put o.dst (.agg cs.toArray))) : wpQuiet P ops C Q (o :: rest) a :=
  BigFrame.wpQuiet_want hw fun K hK => ⟨.agg cs.toArray, fun w hw' => by
    unfold Oper.quietAt execOp
    simp only [ho, hx, Instr.loadAt, Instr.sureAddr, Sem.run_bind, Sem.run_pure, Result.andThen_ok, run_loadVar_mid w b off ty cs d (hC w hw') hu hd hi, Oper.quietUpon, and_self], hK _ h⟩
/-- a struct's load that is guarded, in a plain region -/
theorem wpList_load_gd {P : Program} {ops : Array Oper} {rest : List Oper} {op : Oper} {a : Act} {w : World} {Q : Exit → Act → World → Prop} (hw : Region.wanted op (yielded ops a.tmps) = true) (ty : TypeId) (x : Operand) (ho : op.op = .load ty x)
    (b o : Nat) (hx : a.eval x = .pointer (some ⟨b, o, none⟩)) (cs : List Value) (d : TypeDesc) (hc : w.rangeAt b o cs)
    (hu : P.underlying ty = some d) (hd : d.isRow = true) (hi : (P.info? ty).map (·.size) = some cs.length)
    (h : wpList P ops Q rest (a.put op.dst (.agg cs.toArray)) w) : wpList P ops Q (op :: rest) a w :=
  BigFrame.wpList_want hw fun _ hK => wp_load_mid ty x ho b o hx cs d hc hu hd hi (hK _ _ h)
theorem Box.there {w : World} {β n : Nat} {cs : Array Value} (h : Box w β cs) (hn : cs.size = n) : w.there β 0 n := fun j hj => by
  rw [Nat.zero_add, h.cell j, h.free j]
  exact ⟨by rw [Array.getElem?_eq_getElem (by omega)]; rfl, rfl⟩
theorem Box.range {w : World} {β : Nat} {cs : Array Value} (h : Box w β cs) {l : List Value} (hl : cs = l.toArray) : w.rangeAt β 0 l := fun j v hv => by
  rw [Nat.zero_add, h.cell j, hl]
  simpa using hv
theorem Box.full {w : World} {β : Nat} {cs cs' : Array Value} (h : Box w β cs) (hs : cs.size = cs'.size) : Box (w.setCells β 0 cs'.toList) β cs' := by
  refine ⟨by rw [size_sets]; exact h.lt, fun i => ?_, fun i => by rw [World.frozen?_setCells]; exact h.free i⟩
  by_cases hi : i < cs'.size
  · have := World.cell?_setCells_in β cs'.toList 0 w (fun j hj => (h.there rfl j (by rw [hs]; simpa using hj)).1) i (by simpa using hi)
    rw [Nat.zero_add] at this
    rw [this, Array.getElem?_eq_getElem hi]
    simp
  · rw [World.cell?_setCells_out β cs'.toList 0 w ⟨β, i, none⟩ (fun _ _ => Or.inr (by simp; omega)), h.cell i, Array.getElem?_eq_none (by omega), Array.getElem?_eq_none (by omega)]
end Go.Proofs.YtemggnmooiaokaaGreat
namespace Go.Proofs.YtemggnmooiaokaaGreat
open Go.RowKit Go.Deep

/-- the digits of a number, ahead of what there is -/
def digs : Nat → Nat → List UInt8 → List UInt8
  | 0, _, acc => acc
  | f + 1, k, acc => if k = 0 then acc else digs f (k / 10) (UInt8.ofNat (48 + k % 10) :: acc)
theorem digs_zero (f : Nat) (acc : List UInt8) : digs f 0 acc = acc := by cases f <;> simp [digs]
theorem digs_fuel (k : Nat) : ∀ f acc, k ≤ f → digs f k acc = digs k k acc := by
  induction k using Nat.strongRecOn with
  | _ k ih =>
    intro f acc hf
    by_cases h0 : k = 0
    · subst h0; rw [digs_zero, digs_zero]
    · obtain ⟨f', rfl⟩ : ∃ f', f = f' + 1 := ⟨f - 1, by omega⟩
      obtain ⟨k', rfl⟩ : ∃ k', k = k' + 1 := ⟨k - 1, by omega⟩
      have h1 : (k' + 1) / 10 < k' + 1 := by omega
      rw [show digs (f' + 1) (k' + 1) acc = digs f' ((k' + 1) / 10) (UInt8.ofNat (48 + (k' + 1) % 10) :: acc) from by simp [digs],
        show digs (k' + 1) (k' + 1) acc = digs k' ((k' + 1) / 10) (UInt8.ofNat (48 + (k' + 1) % 10) :: acc) from by simp [digs]]
      rw [ih _ h1 f' _ (by omega), ih _ h1 k' _ (by omega)]
theorem digs_step (k : Nat) (acc : List UInt8) (h : 0 < k) : digs k k acc = digs (k / 10) (k / 10) (UInt8.ofNat (48 + k % 10) :: acc) := by
  obtain ⟨k', rfl⟩ : ∃ k', k = k' + 1 := ⟨k - 1, by omega⟩
  rw [show digs (k' + 1) (k' + 1) acc = digs k' ((k' + 1) / 10) (UInt8.ofNat (48 + (k' + 1) % 10) :: acc) from by simp [digs]]
  exact digs_fuel _ _ _ (by omega)
/-- the mark of a number -/
def mtB (k : Int) : ByteArray := if k ≤ 0 then ⟨#[109, 48]⟩ else ⟨(109 :: digs k.toNat k.toNat []).toArray⟩

set_option maxRecDepth 20000 in
set_option maxHeartbeats 400000 in
theorem markText_any (k : Int) (w : World) (hk : k ≤ 4000000000000000000) :
    Calls Tryz.prog 37 #[.int .i64 k] w fun e w' => e = .returned (.string (mtB k)) ∧ Below w.heap.size w w' := by
  by_cases h0 : k ≤ 0
  · go_enter Tryz.func37, Tryz.ntmps37
    go_wp2
    go_ret
    exact ⟨by unfold mtB; rw [if_pos h0]; rfl, Below.refl _ _⟩
  · obtain ⟨n, rfl⟩ := Int.eq_ofNat_of_zero_le (show 0 ≤ k by omega)
    go_enter Tryz.func37, Tryz.ntmps37
    go_wp2
    go_loopw [0, 3] (fun q o wr => ∃ (j : Nat) (l : List UInt8), q = .int .i64 j ∧ o = .string ⟨l.toArray⟩ ∧ l.length + j ≤ n ∧ Below w.heap.size w wr ∧ Hid (digs j j l = digs n n [])) (fun q _ _ => (intOf q).toNat)
    case atStart => exact ⟨n, [], rfl, rfl, by simp, Below.refl _ _, rfl⟩
    case round =>
      obtain ⟨j, l, rfl, rfl, hl, hb, hd⟩ := hrel
      by_cases hj : 0 < j
      · have hn8 : (UInt8.ofNat (48 + j % 10)).toNat = 48 + j % 10 := by rw [UInt8.toNat_ofNat']; omega
        have hcv : (convert 117 9 (.slice (some ⟨wr.heap.size, 0, none⟩) 1 1)).run Tryz.prog (wr.alloc (.cells #[.int .u8 (48 + (j : Int) % 10)] 5)) = .ok (.string ⟨#[UInt8.ofNat (48 + j % 10)]⟩) (wr.alloc (.cells #[.int .u8 (48 + (j : Int) % 10)] 5)) := by
          have := run_convert_bytes_back (P := Tryz.prog) (wr.alloc (.cells #[.int .u8 (48 + (j : Int) % 10)] 5)) 117 9 5 ⟨wr.heap.size, 0, none⟩ 1 [UInt8.ofNat (48 + j % 10)] Tryz.underlying117 Tryz.underlying5 Tryz.underlying9 (fun i hi => by
            have e : i = 0 := by simp at hi; omega
            subst e
            simp only [List.getElem_cons_zero, hn8]
            simp [Addr.add])
          exact this
        have had : ∀ W, (Op.stringOp .add ⟨#[UInt8.ofNat (48 + j % 10)]⟩ ⟨l.toArray⟩).run Tryz.prog W = .ok (.string ⟨(UInt8.ofNat (48 + j % 10) :: l).toArray⟩) W := fun W => by
          have := run_string_add_sum (P := Tryz.prog) (w := W) ⟨#[UInt8.ofNat (48 + j % 10)]⟩ ⟨l.toArray⟩ (by simp [ByteArray.size]; omega)
          rw [this]
          rfl
        have HD : Hid (digs (j / 10) (j / 10) (UInt8.ofNat (48 + j % 10) :: l) = digs n n []) := by unfold Hid; rw [← digs_step j l hj]; exact hd
        have HB := hide hb
        clear hn8 hd hb
        generalize UInt8.ofNat (48 + j % 10) = dg at *
        go_wp2
        go_roundw
        case rel => exact ⟨j / 10, dg :: l, by go_num, rfl, by simp; omega, HB.out.alloc HB.out.size _, HD⟩
        case measure => simp [intOf]; omega
      · have had : ∀ W, (Op.stringOp .add ⟨#[109]⟩ ⟨l.toArray⟩).run Tryz.prog W = .ok (.string ⟨(109 :: l).toArray⟩) W := fun W => by
          have := run_string_add_sum (P := Tryz.prog) (w := W) ⟨#[109]⟩ ⟨l.toArray⟩ (by simp [ByteArray.size]; omega)
          rw [this]
          rfl
        have HM : Hid (mtB n = ⟨(109 :: l).toArray⟩) := by
          have e : j = 0 := by omega
          subst e
          unfold Hid mtB
          rw [if_neg (by omega), Int.toNat_natCast, ← hd, digs_zero]
        clear hd
        go_wp2
        go_ret
        exact ⟨by rw [HM.out]; rfl, hb⟩

theorem mt_size (k : Int) (hk : k ≤ 4000000000000000000) : (mtB k).size ≤ maxLen := by
  unfold mtB
  by_cases h : k ≤ 0
  · rw [if_pos h]; simp [ByteArray.size, maxLen]
  · rw [if_neg h]
    have : ∀ (f j : Nat) (l : List UInt8), (digs f j l).length ≤ l.length + f := by
      intro f
      induction f with
      | zero => intro j l; simp [digs]
      | succ f ih =>
        intro j l
        rw [digs]
        by_cases h0 : j = 0
        · rw [if_pos h0]; omega
        · rw [if_neg h0]
          have := ih (j / 10) (UInt8.ofNat (48 + j % 10) :: l)
          simp only [List.length_cons] at this; omega
    have := this k.toNat k.toNat []
    simp [ByteArray.size, maxLen] at *
    omega
/-- ONLY THE BLOCKS FROM lo TO hi MAY HAVE TURNED; new ones may have come. -/
structure Touch (lo hi : Nat) (w w' : World) : Prop where
  os : w'.os = w.os
  tape : w'.tape = w.tape
  output : w'.output = w.output
  size : w.heap.size ≤ w'.heap.size
  block : ∀ k, k < w.heap.size → (k < lo ∨ hi ≤ k) → w'.heap[k]? = w.heap[k]?
theorem Touch.refl (lo hi : Nat) (w : World) : Touch lo hi w w := ⟨rfl, rfl, rfl, Nat.le_refl _, fun _ _ _ => rfl⟩
theorem Touch.trans {lo hi : Nat} {a b c : World} (h : Touch lo hi a b) (k : Touch lo hi b c) : Touch lo hi a c :=
  ⟨k.os.trans h.os, k.tape.trans h.tape, k.output.trans h.output, Nat.le_trans h.size k.size, fun i hi' ho => (k.block i (Nat.lt_of_lt_of_le hi' h.size) ho).trans (h.block i hi' ho)⟩
theorem Touch.below {lo hi : Nat} {a b : World} (h : Below a.heap.size a b) : Touch lo hi a b := ⟨h.os, h.tape, h.output, h.size, fun k hk _ => h.block k hk⟩
theorem Touch.setCell (lo hi : Nat) (w : World) (p : Addr) (u : Value) (h : lo ≤ p.block ∧ p.block < hi) : Touch lo hi w (w.setCell p u) :=
  ⟨rfl, rfl, rfl, by simp [World.setCell], fun k _ ho => Below.heap_setCell _ _ _ _ (by omega)⟩
theorem Touch.cell {lo hi : Nat} {w w' : World} (h : Touch lo hi w w') {p : Addr} (hp : p.block < w.heap.size) (ho : p.block < lo ∨ hi ≤ p.block) : w'.cell? p = w.cell? p := World.cell?_of_block (w := w) (h.block p.block hp ho)
theorem Touch.frozen {lo hi : Nat} {w w' : World} (h : Touch lo hi w w') {p : Addr} (hp : p.block < w.heap.size) (ho : p.block < lo ∨ hi ≤ p.block) : w'.frozen? p = w.frozen? p := World.frozen?_of_block (w := w) (h.block p.block hp ho)
theorem Touch.wide {lo hi lo' hi' : Nat} {a b : World} (h : Touch lo hi a b) (h1 : lo' ≤ lo) (h2 : hi ≤ hi') : Touch lo' hi' a b := ⟨h.os, h.tape, h.output, h.size, fun k hk ho => h.block k hk (by omega)⟩
/-- what was touched from lo on leaves all below as it was -/
theorem Touch.under {lo hi : Nat} {a b : World} (h : Touch lo hi a b) (hl : lo ≤ a.heap.size) : Below lo a b := ⟨h.os, h.tape, h.output, h.size, fun k hk => h.block k (by omega) (Or.inl hk)⟩

/-! books of one's own: only some cells of a block, and the blocks of an interval, may have turned -/
structure Near (b o n lo hi : Nat) (w w' : World) : Prop where
  os : w'.os = w.os
  tape : w'.tape = w.tape
  output : w'.output = w.output
  size : w.heap.size ≤ w'.heap.size
  block : ∀ k, k < w.heap.size → k ≠ b → (k < lo ∨ hi ≤ k) → w'.heap[k]? = w.heap[k]?
  cell : ∀ i, (i < o ∨ o + n ≤ i) → w'.cell? ⟨b, i, none⟩ = w.cell? ⟨b, i, none⟩
  frz : ∀ i, w'.frozen? ⟨b, i, none⟩ = w.frozen? ⟨b, i, none⟩
theorem Near.refl (b o n lo hi : Nat) (w : World) : Near b o n lo hi w w := ⟨rfl, rfl, rfl, Nat.le_refl _, fun _ _ _ _ => rfl, fun _ _ => rfl, fun _ => rfl⟩
theorem Near.trans {b o n lo hi : Nat} {u v w : World} (h : Near b o n lo hi u v) (k : Near b o n lo hi v w) : Near b o n lo hi u w :=
  ⟨k.os.trans h.os, k.tape.trans h.tape, k.output.trans h.output, Nat.le_trans h.size k.size, fun i hi' hb ho => (k.block i (Nat.lt_of_lt_of_le hi' h.size) hb ho).trans (h.block i hi' hb ho), fun i hi' => (k.cell i hi').trans (h.cell i hi'), fun i => (k.frz i).trans (h.frz i)⟩
theorem Near.below {b o n lo hi : Nat} {w w' : World} (h : Below w.heap.size w w') (hb : b < w.heap.size) : Near b o n lo hi w w' :=
  ⟨h.os, h.tape, h.output, h.size, fun k hk _ _ => h.block k hk, fun i _ => h.cell (p := ⟨b, i, none⟩) hb, fun i => h.frozen (p := ⟨b, i, none⟩) hb⟩
theorem Near.touch {b o n lo hi lo' hi' : Nat} {w w' : World} (h : Touch lo' hi' w w') (hb : b < w.heap.size) (h1 : lo ≤ lo') (h2 : hi' ≤ hi) (hx : b < lo' ∨ hi' ≤ b) : Near b o n lo hi w w' :=
  ⟨h.os, h.tape, h.output, h.size, fun k hk _ ho => h.block k hk (by omega), fun i _ => h.cell (p := ⟨b, i, none⟩) hb hx, fun i => h.frozen (p := ⟨b, i, none⟩) hb hx⟩
theorem Near.set (b o n lo hi : Nat) (w : World) (i : Nat) (u : Value) (h1 : o ≤ i) (h2 : i < o + n) : Near b o n lo hi w (w.setCell ⟨b, i, none⟩ u) :=
  ⟨rfl, rfl, rfl, by simp [World.setCell], fun k _ hb _ => Below.heap_setCell _ _ _ _ hb, fun j hj => by apply World.cell?_setCell_other; simp only [ne_eq, Addr.mk.injEq, not_and]; omega, fun j => by rw [World.frozen?_setCell]⟩
theorem Near.wide {b o n lo hi lo' hi' : Nat} {w w' : World} (h : Near b o n lo hi w w') (_hb : b < w.heap.size) (h1 : lo' ≤ lo) (h2 : hi ≤ hi') (hx : lo' ≤ b ∧ b < hi') : Touch lo' hi' w w' :=
  ⟨h.os, h.tape, h.output, h.size, fun k hk ho => h.block k hk (by omega) (by omega)⟩
theorem Near.out {b o n lo hi : Nat} {w w' : World} (h : Near b o n lo hi w w') {p : Addr} (hp : p.block < w.heap.size) (hb : p.block ≠ b) (ho : p.block < lo ∨ hi ≤ p.block) : w'.cell? p = w.cell? p ∧ w'.frozen? p = w.frozen? p :=
  ⟨World.cell?_of_block (w := w) (h.block p.block hp hb ho), World.frozen?_of_block (w := w) (h.block p.block hp hb ho)⟩
theorem cne {v : World} {b i j : Nat} {u : Value} (h : i ≠ j) : (v.setCell ⟨b, i, none⟩ u).cell? ⟨b, j, none⟩ = v.cell? ⟨b, j, none⟩ := by
  apply World.cell?_setCell_other
  simp only [ne_eq, Addr.mk.injEq, not_and]
  omega
theorem Touch.setB (B : Nat) (w : World) (i : Nat) (u : Value) : Touch B (B + 1) w (w.setCell ⟨B, i, none⟩ u) := Touch.setCell _ _ _ _ _ ⟨Nat.le_refl _, Nat.lt_succ_self _⟩
end Go.Proofs.YtemggnmooiaokaaGreat
namespace Go.Proofs.YtemggnmooiaokaaGreat
open Go.RowKit Go.Deep

def EnOne (b o _c0 _c1 : Nat) (w : World) (x : En) : Prop := EnSize x ∧ EnCells w b o x
theorem EnOne.near {b o c0 c1 o1 d0 d1 : Nat} {w w' : World} {x : En} (h : EnOne b o c0 c1 w x) (hn : Near b o1 2 d0 d1 w w') (ho : o + 2 ≤ o1 ∨ o1 + 2 ≤ o) (hi : c1 ≤ d0 ∨ d1 ≤ c0) (hb : b < c0 ∨ c1 ≤ b) : EnOne b o c0 c1 w' x := by
  obtain ⟨hs, hc⟩ := h
  obtain ⟨h0, h1⟩ := hc
  have e : ∀ t, t < 2 → w'.cell? ⟨b, o + t, none⟩ = w.cell? ⟨b, o + t, none⟩ := fun t ht => hn.cell _ (by omega)
  have e0 : w'.cell? ⟨b, o, none⟩ = w.cell? ⟨b, o, none⟩ := hn.cell _ (by omega)
  exact ⟨hs, ⟨e0.trans h0, (e 1 (by omega)).trans h1⟩⟩
theorem EnOne.touch {b o c0 c1 : Nat} {lo hi : Nat} {w w' : World} {x : En} (h : EnOne b o c0 c1 w x) (ht : Touch lo hi w w') (hlt : b < w.heap.size) (hb : b < lo ∨ hi ≤ b) (_hi : c1 ≤ lo ∨ hi ≤ c0) : EnOne b o c0 c1 w' x := by
  obtain ⟨hs, hc⟩ := h
  obtain ⟨h0, h1⟩ := hc
  exact ⟨hs, ⟨(ht.cell (p := ⟨b, o, none⟩) hlt hb).trans h0, (ht.cell (p := ⟨b, o + 1, none⟩) hlt hb).trans h1⟩⟩
theorem EnOne.below {b o c0 c1 : Nat}  {w w' : World} {x : En} (h : EnOne b o c0 c1 w x) (ht : Below w.heap.size w w') (hlt : b < w.heap.size) : EnOne b o c0 c1 w' x := by
  obtain ⟨hs, hc⟩ := h
  obtain ⟨h0, h1⟩ := hc
  exact ⟨hs, ⟨(ht.cell (p := ⟨b, o, none⟩) hlt).trans h0, (ht.cell (p := ⟨b, o + 1, none⟩) hlt).trans h1⟩⟩
structure EnRow (lo hi : Nat) (w : World) (b off n : Nat) (c : Nat → Nat) (X : Nat → En) : Prop where
  lt : b < w.heap.size
  low : lo ≤ b
  bc : b < c 0
  bh : b < hi
  mono : ∀ i, i < n → c i ≤ c (i + 1)
  top : c n ≤ hi
  frz : ∀ i, w.frozen? ⟨b, i, none⟩ = false
  row : ∀ i, i < n → EnOne b (off + i * 2) (c i) (c (i + 1)) w (X i)
theorem EnRow.le {lo hi : Nat} {w : World} {b off n : Nat} {c : Nat → Nat} {X : Nat → En} (h : EnRow lo hi w b off n c X) {i : Nat} : ∀ {j : Nat}, i ≤ j → j ≤ n → c i ≤ c j := by
  intro j
  induction j with
  | zero => intro hij _; have : i = 0 := by omega
            subst this; exact Nat.le_refl _
  | succ j ih =>
    intro hij hjn
    by_cases e : i = j + 1
    · subst e; exact Nat.le_refl _
    · exact Nat.le_trans (ih (by omega) (by omega)) (h.mono j (by omega))
theorem EnRow.near {lo hi : Nat} {w w' : World} {b off n : Nat} {c : Nat → Nat} {X : Nat → En} (h : EnRow lo hi w b off n c X) {j : Nat} (hj : j < n) (hn : Near b (off + j * 2) 2 (c j) (c (j + 1)) w w') {x : En} (hx : EnOne b (off + j * 2) (c j) (c (j + 1)) w' x) : EnRow lo hi w' b off n c (fun i => if i = j then x else X i) := by
  refine ⟨Nat.lt_of_lt_of_le h.lt hn.size, h.low, h.bc, h.bh, h.mono, h.top, fun i => (hn.frz i).trans (h.frz i), fun i hi' => ?_⟩
  by_cases e : i = j
  · subst e; rw [if_pos rfl]; exact hx
  · rw [if_neg e]
    have h0 := h.le (Nat.zero_le i) (by omega)
    have hbc := h.bc
    refine (h.row i hi').near hn (by omega) ?_ (by omega)
    rcases Nat.lt_or_ge i j with hij | hij
    · exact Or.inl (h.le (by omega) (by omega))
    · exact Or.inr (h.le (by omega) (by omega))
theorem EnRow.touch {lo hi lo' hi' : Nat} {w w' : World} {b off n : Nat} {c : Nat → Nat} {X : Nat → En} (h : EnRow lo hi w b off n c X) (ht : Touch lo' hi' w w') (ho : hi ≤ lo' ∨ hi' ≤ lo) : EnRow lo hi w' b off n c X := by
  have h1 := h.low
  have h2 := h.bh
  have h3 := h.top
  have h4 := h.bc
  refine ⟨Nat.lt_of_lt_of_le h.lt ht.size, h.low, h.bc, h.bh, h.mono, h.top, fun i => (ht.frozen (p := ⟨b, i, none⟩) h.lt (by simp only []; omega)).trans (h.frz i), fun i hi' => ?_⟩
  have h5 := h.le (Nat.zero_le i) (by omega)
  have h6 := h.le (i := i + 1) (j := n) (by omega) (Nat.le_refl _)
  exact (h.row i hi').touch ht h.lt (by omega) (by omega)
theorem EnRow.below {lo hi : Nat} {w w' : World} {b off n : Nat} {c : Nat → Nat} {X : Nat → En} (h : EnRow lo hi w b off n c X) (ht : Below w.heap.size w w') : EnRow lo hi w' b off n c X :=
  ⟨Nat.lt_of_lt_of_le h.lt ht.size, h.low, h.bc, h.bh, h.mono, h.top, fun i => (ht.frozen (p := ⟨b, i, none⟩) h.lt).trans (h.frz i), fun i hi' => (h.row i hi').below ht h.lt⟩
theorem EnRow.to {lo hi : Nat} {w : World} {b off n : Nat} {c : Nat → Nat} {X Y : Nat → En} (h : EnRow lo hi w b off n c X) (e : ∀ i, i < n → X i = Y i) : EnRow lo hi w b off n c Y :=
  ⟨h.lt, h.low, h.bc, h.bh, h.mono, h.top, h.frz, fun i hi' => e i hi' ▸ h.row i hi'⟩
/-- a list of one's own -/
def EnsOwn (lo hi : Nat) (w : World) (v : Value) (Xl : List En) : Prop :=
  (∃ (a : Option Addr) (cap : Nat), v = .slice a 0 cap ∧ Xl = []) ∨
  ∃ (b off cap : Nat) (c : Nat → Nat) (X : Nat → En), v = .slice (some ⟨b, off, none⟩) Xl.length cap ∧ Xl ≠ [] ∧ Xl.length ≤ maxLen ∧ Xl.length ≤ cap ∧ (∀ i (h : i < Xl.length), X i = Xl[i]) ∧ EnRow lo hi w b off Xl.length c X
theorem EnsOwn.touch {lo hi lo' hi' : Nat} {w w' : World} {v : Value} {Xl : List En} (h : EnsOwn lo hi w v Xl) (ht : Touch lo' hi' w w') (ho : hi ≤ lo' ∨ hi' ≤ lo) : EnsOwn lo hi w' v Xl := by
  rcases h with h | ⟨b, off, cap, c, X, h1, h2, h3, h4, h5, h6⟩
  · exact Or.inl h
  · exact Or.inr ⟨b, off, cap, c, X, h1, h2, h3, h4, h5, h6.touch ht ho⟩
theorem EnsOwn.below {lo hi : Nat} {w w' : World} {v : Value} {Xl : List En} (h : EnsOwn lo hi w v Xl) (ht : Below w.heap.size w w') : EnsOwn lo hi w' v Xl := by
  rcases h with h | ⟨b, off, cap, c, X, h1, h2, h3, h4, h5, h6⟩
  · exact Or.inl h
  · exact Or.inr ⟨b, off, cap, c, X, h1, h2, h3, h4, h5, h6.below ht⟩
theorem EnsOwn.form {lo hi : Nat} {w : World} {v : Value} {Xl : List En} (h : EnsOwn lo hi w v Xl) : ∃ a cap, v = .slice a Xl.length cap := by
  rcases h with ⟨a, cap, h, rfl⟩ | ⟨b, off, cap, c, X, h1, _⟩
  · exact ⟨a, cap, h⟩
  · exact ⟨_, cap, h1⟩
theorem EnsOwn.at {lo hi : Nat} {w : World} {v : Value} {Xl : List En} (h : EnsOwn lo hi w v Xl) : EnsAt lo w v Xl := by
  rcases h with h | ⟨b, off, cap, c, X, h1, h2, h3, h4, h5, h6⟩
  · exact Or.inl h
  · refine Or.inr ⟨b, off, cap, h1, h2, h3, h6.lt, h6.low, h4, fun i hi' => ?_⟩
    have hr := h6.row i hi'
    rw [h5 i hi'] at hr
    obtain ⟨hs, hc⟩ := hr
    exact ⟨hs, hc⟩
/-- marks from k on -/
def mkEn (k : Int) (_x : En) : En := ⟨k, k + 1⟩
def wdEn (_x : En) : Nat := 2
def posEn (Xl : List En) (i : Nat) : Nat := ((Xl.take i).map wdEn).sum
def mkEns (k : Int) (Xl : List En) : List En := Xl.mapIdx (fun i x => mkEn (k + (posEn Xl i : Int)) x)
theorem mkEns_len (k : Int) (Xl : List En) : (mkEns k Xl).length = Xl.length := by unfold mkEns; simp
theorem mkEns_get (k : Int) (Xl : List En) (i : Nat) (h : i < (mkEns k Xl).length) (h' : i < Xl.length) : (mkEns k Xl)[i] = mkEn (k + (posEn Xl i : Int)) Xl[i] := List.getElem_mapIdx (f := fun i x => mkEn (k + (posEn Xl i : Int)) x) (h := h)
theorem posEn_succ {Xl : List En} {i : Nat} (h : i < Xl.length) : posEn Xl (i + 1) = posEn Xl i + wdEn Xl[i] := by
  unfold posEn
  rw [List.take_succ_eq_append_getElem h, List.map_append, List.sum_append]
  simp
theorem posEn_le {Xl : List En} (_hn : EnsSmall Xl) : ∀ {i : Nat}, i ≤ Xl.length → posEn Xl i ≤ i * 3000000 := by
  intro i
  induction i with
  | zero => intro _; simp [posEn]
  | succ i ih =>
    intro hi'
    have h1 := ih (by omega)
    rw [posEn_succ (by omega)]
    have h2 : wdEn Xl[i] ≤ 3000000 := by
      unfold wdEn
      omega
    omega
theorem posEn_all {Xl : List En} {i : Nat} (h : Xl.length ≤ i) : posEn Xl i = posEn Xl Xl.length := by
  unfold posEn
  rw [List.take_of_length_le h, List.take_of_length_le (Nat.le_refl _)]
structure EnSt (wr : World) (b o c0 c1 : Nat) (v : World) (y : En) : Prop where
  near : Near b o 2 c0 c1 wr v
  bc : b < c0
  cells : EnCells v b o y
  frz : ∀ i, v.frozen? ⟨b, i, none⟩ = false
  lt : b < v.heap.size
theorem EnSt.below {wr : World} {b o c0 c1 : Nat} {v v' : World} {y : En} (h : EnSt wr b o c0 c1 v y) (hb : Below v.heap.size v v') : EnSt wr b o c0 c1 v' y :=
  ⟨h.near.trans (Near.below hb h.lt), h.bc, h.cells.below hb h.lt, fun i => (hb.frozen (p := ⟨b, i, none⟩) h.lt).trans (h.frz i), Nat.lt_of_lt_of_le h.lt hb.size⟩
theorem EnSt.s0 {wr : World} {b o c0 c1 : Nat} {v : World} {y : En} (h : EnSt wr b o c0 c1 v y) (u : Int) : EnSt wr b o c0 c1 (v.setCell ⟨b, o, none⟩ (.int .i64 u)) { y with nu := u } := by
  obtain ⟨h0, h1⟩ := h.cells
  have ht : Touch b (b + 1) v (v.setCell ⟨b, o, none⟩ (.int .i64 u)) := Touch.setCell _ _ _ _ _ ⟨Nat.le_refl _, by simp only []; omega⟩
  have hbc := h.bc
  exact ⟨h.near.trans (Near.set _ _ _ _ _ _ _ _ (by omega) (by omega)), h.bc, ⟨World.cell?_setCell_same' _ _ _ (by rw [h0]; rfl), (cne (by omega)).trans h1⟩, fun i => by rw [World.frozen?_setCell]; exact h.frz i, by simpa [World.setCell] using h.lt⟩
theorem EnSt.s1 {wr : World} {b o c0 c1 : Nat} {v : World} {y : En} (h : EnSt wr b o c0 c1 v y) (u : Int) : EnSt wr b o c0 c1 (v.setCell ⟨b, o + 1, none⟩ (.int .i64 u)) { y with sn := u } := by
  obtain ⟨h0, h1⟩ := h.cells
  have ht : Touch b (b + 1) v (v.setCell ⟨b, o + 1, none⟩ (.int .i64 u)) := Touch.setCell _ _ _ _ _ ⟨Nat.le_refl _, by simp only []; omega⟩
  have hbc := h.bc
  exact ⟨h.near.trans (Near.set _ _ _ _ _ _ _ _ (by omega) (by omega)), h.bc, ⟨(cne (by omega)).trans h0, World.cell?_setCell_same' _ _ _ (by rw [h1]; rfl)⟩, fun i => by rw [World.frozen?_setCell]; exact h.frz i, by simpa [World.setCell] using h.lt⟩
end Go.Proofs.YtemggnmooiaokaaGreat
namespace Go.Proofs.YtemggnmooiaokaaGreat
open Go.RowKit Go.Deep

def SvOne (b o _c0 _c1 : Nat) (w : World) (x : Sv) : Prop := SvSize x ∧ SvCells w b o x
theorem SvOne.near {b o c0 c1 o1 d0 d1 : Nat} {w w' : World} {x : Sv} (h : SvOne b o c0 c1 w x) (hn : Near b o1 13 d0 d1 w w') (ho : o + 13 ≤ o1 ∨ o1 + 13 ≤ o) (hi : c1 ≤ d0 ∨ d1 ≤ c0) (hb : b < c0 ∨ c1 ≤ b) : SvOne b o c0 c1 w' x := by
  obtain ⟨hs, hc⟩ := h
  obtain ⟨h0, h1, h2, h3, h4, h5, h6, h7, h8, h9, h10, h11, h12⟩ := hc
  have e : ∀ t, t < 13 → w'.cell? ⟨b, o + t, none⟩ = w.cell? ⟨b, o + t, none⟩ := fun t ht => hn.cell _ (by omega)
  have e0 : w'.cell? ⟨b, o, none⟩ = w.cell? ⟨b, o, none⟩ := hn.cell _ (by omega)
  exact ⟨hs, ⟨e0.trans h0, (e 1 (by omega)).trans h1, (e 2 (by omega)).trans h2, (e 3 (by omega)).trans h3, (e 4 (by omega)).trans h4, (e 5 (by omega)).trans h5, (e 6 (by omega)).trans h6, (e 7 (by omega)).trans h7, (e 8 (by omega)).trans h8, (e 9 (by omega)).trans h9, (e 10 (by omega)).trans h10, (e 11 (by omega)).trans h11, (e 12 (by omega)).trans h12⟩⟩
theorem SvOne.touch {b o c0 c1 : Nat} {lo hi : Nat} {w w' : World} {x : Sv} (h : SvOne b o c0 c1 w x) (ht : Touch lo hi w w') (hlt : b < w.heap.size) (hb : b < lo ∨ hi ≤ b) (_hi : c1 ≤ lo ∨ hi ≤ c0) : SvOne b o c0 c1 w' x := by
  obtain ⟨hs, hc⟩ := h
  obtain ⟨h0, h1, h2, h3, h4, h5, h6, h7, h8, h9, h10, h11, h12⟩ := hc
  exact ⟨hs, ⟨(ht.cell (p := ⟨b, o, none⟩) hlt hb).trans h0, (ht.cell (p := ⟨b, o + 1, none⟩) hlt hb).trans h1, (ht.cell (p := ⟨b, o + 2, none⟩) hlt hb).trans h2, (ht.cell (p := ⟨b, o + 3, none⟩) hlt hb).trans h3, (ht.cell (p := ⟨b, o + 4, none⟩) hlt hb).trans h4, (ht.cell (p := ⟨b, o + 5, none⟩) hlt hb).trans h5, (ht.cell (p := ⟨b, o + 6, none⟩) hlt hb).trans h6, (ht.cell (p := ⟨b, o + 7, none⟩) hlt hb).trans h7, (ht.cell (p := ⟨b, o + 8, none⟩) hlt hb).trans h8, (ht.cell (p := ⟨b, o + 9, none⟩) hlt hb).trans h9, (ht.cell (p := ⟨b, o + 10, none⟩) hlt hb).trans h10, (ht.cell (p := ⟨b, o + 11, none⟩) hlt hb).trans h11, (ht.cell (p := ⟨b, o + 12, none⟩) hlt hb).trans h12⟩⟩
theorem SvOne.below {b o c0 c1 : Nat}  {w w' : World} {x : Sv} (h : SvOne b o c0 c1 w x) (ht : Below w.heap.size w w') (hlt : b < w.heap.size) : SvOne b o c0 c1 w' x := by
  obtain ⟨hs, hc⟩ := h
  obtain ⟨h0, h1, h2, h3, h4, h5, h6, h7, h8, h9, h10, h11, h12⟩ := hc
  exact ⟨hs, ⟨(ht.cell (p := ⟨b, o, none⟩) hlt).trans h0, (ht.cell (p := ⟨b, o + 1, none⟩) hlt).trans h1, (ht.cell (p := ⟨b, o + 2, none⟩) hlt).trans h2, (ht.cell (p := ⟨b, o + 3, none⟩) hlt).trans h3, (ht.cell (p := ⟨b, o + 4, none⟩) hlt).trans h4, (ht.cell (p := ⟨b, o + 5, none⟩) hlt).trans h5, (ht.cell (p := ⟨b, o + 6, none⟩) hlt).trans h6, (ht.cell (p := ⟨b, o + 7, none⟩) hlt).trans h7, (ht.cell (p := ⟨b, o + 8, none⟩) hlt).trans h8, (ht.cell (p := ⟨b, o + 9, none⟩) hlt).trans h9, (ht.cell (p := ⟨b, o + 10, none⟩) hlt).trans h10, (ht.cell (p := ⟨b, o + 11, none⟩) hlt).trans h11, (ht.cell (p := ⟨b, o + 12, none⟩) hlt).trans h12⟩⟩
structure SvRow (lo hi : Nat) (w : World) (b off n : Nat) (c : Nat → Nat) (X : Nat → Sv) : Prop where
  lt : b < w.heap.size
  low : lo ≤ b
  bc : b < c 0
  bh : b < hi
  mono : ∀ i, i < n → c i ≤ c (i + 1)
  top : c n ≤ hi
  frz : ∀ i, w.frozen? ⟨b, i, none⟩ = false
  row : ∀ i, i < n → SvOne b (off + i * 13) (c i) (c (i + 1)) w (X i)
theorem SvRow.le {lo hi : Nat} {w : World} {b off n : Nat} {c : Nat → Nat} {X : Nat → Sv} (h : SvRow lo hi w b off n c X) {i : Nat} : ∀ {j : Nat}, i ≤ j → j ≤ n → c i ≤ c j := by
  intro j
  induction j with
  | zero => intro hij _; have : i = 0 := by omega
            subst this; exact Nat.le_refl _
  | succ j ih =>
    intro hij hjn
    by_cases e : i = j + 1
    · subst e; exact Nat.le_refl _
    · exact Nat.le_trans (ih (by omega) (by omega)) (h.mono j (by omega))
theorem SvRow.near {lo hi : Nat} {w w' : World} {b off n : Nat} {c : Nat → Nat} {X : Nat → Sv} (h : SvRow lo hi w b off n c X) {j : Nat} (hj : j < n) (hn : Near b (off + j * 13) 13 (c j) (c (j + 1)) w w') {x : Sv} (hx : SvOne b (off + j * 13) (c j) (c (j + 1)) w' x) : SvRow lo hi w' b off n c (fun i => if i = j then x else X i) := by
  refine ⟨Nat.lt_of_lt_of_le h.lt hn.size, h.low, h.bc, h.bh, h.mono, h.top, fun i => (hn.frz i).trans (h.frz i), fun i hi' => ?_⟩
  by_cases e : i = j
  · subst e; rw [if_pos rfl]; exact hx
  · rw [if_neg e]
    have h0 := h.le (Nat.zero_le i) (by omega)
    have hbc := h.bc
    refine (h.row i hi').near hn (by omega) ?_ (by omega)
    rcases Nat.lt_or_ge i j with hij | hij
    · exact Or.inl (h.le (by omega) (by omega))
    · exact Or.inr (h.le (by omega) (by omega))
theorem SvRow.touch {lo hi lo' hi' : Nat} {w w' : World} {b off n : Nat} {c : Nat → Nat} {X : Nat → Sv} (h : SvRow lo hi w b off n c X) (ht : Touch lo' hi' w w') (ho : hi ≤ lo' ∨ hi' ≤ lo) : SvRow lo hi w' b off n c X := by
  have h1 := h.low
  have h2 := h.bh
  have h3 := h.top
  have h4 := h.bc
  refine ⟨Nat.lt_of_lt_of_le h.lt ht.size, h.low, h.bc, h.bh, h.mono, h.top, fun i => (ht.frozen (p := ⟨b, i, none⟩) h.lt (by simp only []; omega)).trans (h.frz i), fun i hi' => ?_⟩
  have h5 := h.le (Nat.zero_le i) (by omega)
  have h6 := h.le (i := i + 1) (j := n) (by omega) (Nat.le_refl _)
  exact (h.row i hi').touch ht h.lt (by omega) (by omega)
theorem SvRow.below {lo hi : Nat} {w w' : World} {b off n : Nat} {c : Nat → Nat} {X : Nat → Sv} (h : SvRow lo hi w b off n c X) (ht : Below w.heap.size w w') : SvRow lo hi w' b off n c X :=
  ⟨Nat.lt_of_lt_of_le h.lt ht.size, h.low, h.bc, h.bh, h.mono, h.top, fun i => (ht.frozen (p := ⟨b, i, none⟩) h.lt).trans (h.frz i), fun i hi' => (h.row i hi').below ht h.lt⟩
theorem SvRow.to {lo hi : Nat} {w : World} {b off n : Nat} {c : Nat → Nat} {X Y : Nat → Sv} (h : SvRow lo hi w b off n c X) (e : ∀ i, i < n → X i = Y i) : SvRow lo hi w b off n c Y :=
  ⟨h.lt, h.low, h.bc, h.bh, h.mono, h.top, h.frz, fun i hi' => e i hi' ▸ h.row i hi'⟩
/-- a list of one's own -/
def SvsOwn (lo hi : Nat) (w : World) (v : Value) (Xl : List Sv) : Prop :=
  (∃ (a : Option Addr) (cap : Nat), v = .slice a 0 cap ∧ Xl = []) ∨
  ∃ (b off cap : Nat) (c : Nat → Nat) (X : Nat → Sv), v = .slice (some ⟨b, off, none⟩) Xl.length cap ∧ Xl ≠ [] ∧ Xl.length ≤ maxLen ∧ Xl.length ≤ cap ∧ (∀ i (h : i < Xl.length), X i = Xl[i]) ∧ SvRow lo hi w b off Xl.length c X
theorem SvsOwn.touch {lo hi lo' hi' : Nat} {w w' : World} {v : Value} {Xl : List Sv} (h : SvsOwn lo hi w v Xl) (ht : Touch lo' hi' w w') (ho : hi ≤ lo' ∨ hi' ≤ lo) : SvsOwn lo hi w' v Xl := by
  rcases h with h | ⟨b, off, cap, c, X, h1, h2, h3, h4, h5, h6⟩
  · exact Or.inl h
  · exact Or.inr ⟨b, off, cap, c, X, h1, h2, h3, h4, h5, h6.touch ht ho⟩
theorem SvsOwn.below {lo hi : Nat} {w w' : World} {v : Value} {Xl : List Sv} (h : SvsOwn lo hi w v Xl) (ht : Below w.heap.size w w') : SvsOwn lo hi w' v Xl := by
  rcases h with h | ⟨b, off, cap, c, X, h1, h2, h3, h4, h5, h6⟩
  · exact Or.inl h
  · exact Or.inr ⟨b, off, cap, c, X, h1, h2, h3, h4, h5, h6.below ht⟩
theorem SvsOwn.form {lo hi : Nat} {w : World} {v : Value} {Xl : List Sv} (h : SvsOwn lo hi w v Xl) : ∃ a cap, v = .slice a Xl.length cap := by
  rcases h with ⟨a, cap, h, rfl⟩ | ⟨b, off, cap, c, X, h1, _⟩
  · exact ⟨a, cap, h⟩
  · exact ⟨_, cap, h1⟩
theorem SvsOwn.at {lo hi : Nat} {w : World} {v : Value} {Xl : List Sv} (h : SvsOwn lo hi w v Xl) : SvsAt lo w v Xl := by
  rcases h with h | ⟨b, off, cap, c, X, h1, h2, h3, h4, h5, h6⟩
  · exact Or.inl h
  · refine Or.inr ⟨b, off, cap, h1, h2, h3, h6.lt, h6.low, h4, fun i hi' => ?_⟩
    have hr := h6.row i hi'
    rw [h5 i hi'] at hr
    obtain ⟨hs, hc⟩ := hr
    exact ⟨hs, hc⟩
/-- marks from k on -/
def mkSv (k : Int) (_x : Sv) : Sv := ⟨mtB (k), k + 1, ((k + 1 + 1) % 3 == 0), k + 1 + 1 + 1, k + 1 + 1 + 1 + 1, k + 1 + 1 + 1 + 1 + 1, k + 1 + 1 + 1 + 1 + 1 + 1, k + 1 + 1 + 1 + 1 + 1 + 1 + 1, k + 1 + 1 + 1 + 1 + 1 + 1 + 1 + 1, k + 1 + 1 + 1 + 1 + 1 + 1 + 1 + 1 + 1, k + 1 + 1 + 1 + 1 + 1 + 1 + 1 + 1 + 1 + 1, k + 1 + 1 + 1 + 1 + 1 + 1 + 1 + 1 + 1 + 1 + 1, k + 1 + 1 + 1 + 1 + 1 + 1 + 1 + 1 + 1 + 1 + 1 + 1⟩
def wdSv (_x : Sv) : Nat := 13
def posSv (Xl : List Sv) (i : Nat) : Nat := ((Xl.take i).map wdSv).sum
def mkSvs (k : Int) (Xl : List Sv) : List Sv := Xl.mapIdx (fun i x => mkSv (k + (posSv Xl i : Int)) x)
theorem mkSvs_len (k : Int) (Xl : List Sv) : (mkSvs k Xl).length = Xl.length := by unfold mkSvs; simp
theorem mkSvs_get (k : Int) (Xl : List Sv) (i : Nat) (h : i < (mkSvs k Xl).length) (h' : i < Xl.length) : (mkSvs k Xl)[i] = mkSv (k + (posSv Xl i : Int)) Xl[i] := List.getElem_mapIdx (f := fun i x => mkSv (k + (posSv Xl i : Int)) x) (h := h)
theorem posSv_succ {Xl : List Sv} {i : Nat} (h : i < Xl.length) : posSv Xl (i + 1) = posSv Xl i + wdSv Xl[i] := by
  unfold posSv
  rw [List.take_succ_eq_append_getElem h, List.map_append, List.sum_append]
  simp
theorem posSv_le {Xl : List Sv} (_hn : SvsSmall Xl) : ∀ {i : Nat}, i ≤ Xl.length → posSv Xl i ≤ i * 3000000 := by
  intro i
  induction i with
  | zero => intro _; simp [posSv]
  | succ i ih =>
    intro hi'
    have h1 := ih (by omega)
    rw [posSv_succ (by omega)]
    have h2 : wdSv Xl[i] ≤ 3000000 := by
      unfold wdSv
      omega
    omega
theorem posSv_all {Xl : List Sv} {i : Nat} (h : Xl.length ≤ i) : posSv Xl i = posSv Xl Xl.length := by
  unfold posSv
  rw [List.take_of_length_le h, List.take_of_length_le (Nat.le_refl _)]
structure SvSt (wr : World) (b o c0 c1 : Nat) (v : World) (y : Sv) : Prop where
  near : Near b o 13 c0 c1 wr v
  bc : b < c0
  cells : SvCells v b o y
  frz : ∀ i, v.frozen? ⟨b, i, none⟩ = false
  lt : b < v.heap.size
theorem SvSt.below {wr : World} {b o c0 c1 : Nat} {v v' : World} {y : Sv} (h : SvSt wr b o c0 c1 v y) (hb : Below v.heap.size v v') : SvSt wr b o c0 c1 v' y :=
  ⟨h.near.trans (Near.below hb h.lt), h.bc, h.cells.below hb h.lt, fun i => (hb.frozen (p := ⟨b, i, none⟩) h.lt).trans (h.frz i), Nat.lt_of_lt_of_le h.lt hb.size⟩
theorem SvSt.s0 {wr : World} {b o c0 c1 : Nat} {v : World} {y : Sv} (h : SvSt wr b o c0 c1 v y) (u : ByteArray) : SvSt wr b o c0 c1 (v.setCell ⟨b, o, none⟩ (.string u)) { y with nm := u } := by
  obtain ⟨h0, h1, h2, h3, h4, h5, h6, h7, h8, h9, h10, h11, h12⟩ := h.cells
  have ht : Touch b (b + 1) v (v.setCell ⟨b, o, none⟩ (.string u)) := Touch.setCell _ _ _ _ _ ⟨Nat.le_refl _, by simp only []; omega⟩
  have hbc := h.bc
  exact ⟨h.near.trans (Near.set _ _ _ _ _ _ _ _ (by omega) (by omega)), h.bc, ⟨World.cell?_setCell_same' _ _ _ (by rw [h0]; rfl), (cne (by omega)).trans h1, (cne (by omega)).trans h2, (cne (by omega)).trans h3, (cne (by omega)).trans h4, (cne (by omega)).trans h5, (cne (by omega)).trans h6, (cne (by omega)).trans h7, (cne (by omega)).trans h8, (cne (by omega)).trans h9, (cne (by omega)).trans h10, (cne (by omega)).trans h11, (cne (by omega)).trans h12⟩, fun i => by rw [World.frozen?_setCell]; exact h.frz i, by simpa [World.setCell] using h.lt⟩
theorem SvSt.s1 {wr : World} {b o c0 c1 : Nat} {v : World} {y : Sv} (h : SvSt wr b o c0 c1 v y) (u : Int) : SvSt wr b o c0 c1 (v.setCell ⟨b, o + 1, none⟩ (.int .i64 u)) { y with ve := u } := by
  obtain ⟨h0, h1, h2, h3, h4, h5, h6, h7, h8, h9, h10, h11, h12⟩ := h.cells
  have ht : Touch b (b + 1) v (v.setCell ⟨b, o + 1, none⟩ (.int .i64 u)) := Touch.setCell _ _ _ _ _ ⟨Nat.le_refl _, by simp only []; omega⟩
  have hbc := h.bc
  exact ⟨h.near.trans (Near.set _ _ _ _ _ _ _ _ (by omega) (by omega)), h.bc, ⟨(cne (by omega)).trans h0, World.cell?_setCell_same' _ _ _ (by rw [h1]; rfl), (cne (by omega)).trans h2, (cne (by omega)).trans h3, (cne (by omega)).trans h4, (cne (by omega)).trans h5, (cne (by omega)).trans h6, (cne (by omega)).trans h7, (cne (by omega)).trans h8, (cne (by omega)).trans h9, (cne (by omega)).trans h10, (cne (by omega)).trans h11, (cne (by omega)).trans h12⟩, fun i => by rw [World.frozen?_setCell]; exact h.frz i, by simpa [World.setCell] using h.lt⟩
theorem SvSt.s2 {wr : World} {b o c0 c1 : Nat} {v : World} {y : Sv} (h : SvSt wr b o c0 c1 v y) (u : Bool) : SvSt wr b o c0 c1 (v.setCell ⟨b, o + 2, none⟩ (.bool u)) { y with gn := u } := by
  obtain ⟨h0, h1, h2, h3, h4, h5, h6, h7, h8, h9, h10, h11, h12⟩ := h.cells
  have ht : Touch b (b + 1) v (v.setCell ⟨b, o + 2, none⟩ (.bool u)) := Touch.setCell _ _ _ _ _ ⟨Nat.le_refl _, by simp only []; omega⟩
  have hbc := h.bc
  exact ⟨h.near.trans (Near.set _ _ _ _ _ _ _ _ (by omega) (by omega)), h.bc, ⟨(cne (by omega)).trans h0, (cne (by omega)).trans h1, World.cell?_setCell_same' _ _ _ (by rw [h2]; rfl), (cne (by omega)).trans h3, (cne (by omega)).trans h4, (cne (by omega)).trans h5, (cne (by omega)).trans h6, (cne (by omega)).trans h7, (cne (by omega)).trans h8, (cne (by omega)).trans h9, (cne (by omega)).trans h10, (cne (by omega)).trans h11, (cne (by omega)).trans h12⟩, fun i => by rw [World.frozen?_setCell]; exact h.frz i, by simpa [World.setCell] using h.lt⟩
theorem SvSt.s3 {wr : World} {b o c0 c1 : Nat} {v : World} {y : Sv} (h : SvSt wr b o c0 c1 v y) (u : Int) : SvSt wr b o c0 c1 (v.setCell ⟨b, o + 3, none⟩ (.int .i64 u)) { y with im := u } := by
  obtain ⟨h0, h1, h2, h3, h4, h5, h6, h7, h8, h9, h10, h11, h12⟩ := h.cells
  have ht : Touch b (b + 1) v (v.setCell ⟨b, o + 3, none⟩ (.int .i64 u)) := Touch.setCell _ _ _ _ _ ⟨Nat.le_refl _, by simp only []; omega⟩
  have hbc := h.bc
  exact ⟨h.near.trans (Near.set _ _ _ _ _ _ _ _ (by omega) (by omega)), h.bc, ⟨(cne (by omega)).trans h0, (cne (by omega)).trans h1, (cne (by omega)).trans h2, World.cell?_setCell_same' _ _ _ (by rw [h3]; rfl), (cne (by omega)).trans h4, (cne (by omega)).trans h5, (cne (by omega)).trans h6, (cne (by omega)).trans h7, (cne (by omega)).trans h8, (cne (by omega)).trans h9, (cne (by omega)).trans h10, (cne (by omega)).trans h11, (cne (by omega)).trans h12⟩, fun i => by rw [World.frozen?_setCell]; exact h.frz i, by simpa [World.setCell] using h.lt⟩
theorem SvSt.s4 {wr : World} {b o c0 c1 : Nat} {v : World} {y : Sv} (h : SvSt wr b o c0 c1 v y) (u : Int) : SvSt wr b o c0 c1 (v.setCell ⟨b, o + 4, none⟩ (.int .i64 u)) { y with wa := u } := by
  obtain ⟨h0, h1, h2, h3, h4, h5, h6, h7, h8, h9, h10, h11, h12⟩ := h.cells
  have ht : Touch b (b + 1) v (v.setCell ⟨b, o + 4, none⟩ (.int .i64 u)) := Touch.setCell _ _ _ _ _ ⟨Nat.le_refl _, by simp only []; omega⟩
  have hbc := h.bc
  exact ⟨h.near.trans (Near.set _ _ _ _ _ _ _ _ (by omega) (by omega)), h.bc, ⟨(cne (by omega)).trans h0, (cne (by omega)).trans h1, (cne (by omega)).trans h2, (cne (by omega)).trans h3, World.cell?_setCell_same' _ _ _ (by rw [h4]; rfl), (cne (by omega)).trans h5, (cne (by omega)).trans h6, (cne (by omega)).trans h7, (cne (by omega)).trans h8, (cne (by omega)).trans h9, (cne (by omega)).trans h10, (cne (by omega)).trans h11, (cne (by omega)).trans h12⟩, fun i => by rw [World.frozen?_setCell]; exact h.frz i, by simpa [World.setCell] using h.lt⟩
theorem SvSt.s5 {wr : World} {b o c0 c1 : Nat} {v : World} {y : Sv} (h : SvSt wr b o c0 c1 v y) (u : Int) : SvSt wr b o c0 c1 (v.setCell ⟨b, o + 5, none⟩ (.int .i64 u)) { y with dn := u } := by
  obtain ⟨h0, h1, h2, h3, h4, h5, h6, h7, h8, h9, h10, h11, h12⟩ := h.cells
  have ht : Touch b (b + 1) v (v.setCell ⟨b, o + 5, none⟩ (.int .i64 u)) := Touch.setCell _ _ _ _ _ ⟨Nat.le_refl _, by simp only []; omega⟩
  have hbc := h.bc
  exact ⟨h.near.trans (Near.set _ _ _ _ _ _ _ _ (by omega) (by omega)), h.bc, ⟨(cne (by omega)).trans h0, (cne (by omega)).trans h1, (cne (by omega)).trans h2, (cne (by omega)).trans h3, (cne (by omega)).trans h4, World.cell?_setCell_same' _ _ _ (by rw [h5]; rfl), (cne (by omega)).trans h6, (cne (by omega)).trans h7, (cne (by omega)).trans h8, (cne (by omega)).trans h9, (cne (by omega)).trans h10, (cne (by omega)).trans h11, (cne (by omega)).trans h12⟩, fun i => by rw [World.frozen?_setCell]; exact h.frz i, by simpa [World.setCell] using h.lt⟩
theorem SvSt.s6 {wr : World} {b o c0 c1 : Nat} {v : World} {y : Sv} (h : SvSt wr b o c0 c1 v y) (u : Int) : SvSt wr b o c0 c1 (v.setCell ⟨b, o + 6, none⟩ (.int .i64 u)) { y with ov := u } := by
  obtain ⟨h0, h1, h2, h3, h4, h5, h6, h7, h8, h9, h10, h11, h12⟩ := h.cells
  have ht : Touch b (b + 1) v (v.setCell ⟨b, o + 6, none⟩ (.int .i64 u)) := Touch.setCell _ _ _ _ _ ⟨Nat.le_refl _, by simp only []; omega⟩
  have hbc := h.bc
  exact ⟨h.near.trans (Near.set _ _ _ _ _ _ _ _ (by omega) (by omega)), h.bc, ⟨(cne (by omega)).trans h0, (cne (by omega)).trans h1, (cne (by omega)).trans h2, (cne (by omega)).trans h3, (cne (by omega)).trans h4, (cne (by omega)).trans h5, World.cell?_setCell_same' _ _ _ (by rw [h6]; rfl), (cne (by omega)).trans h7, (cne (by omega)).trans h8, (cne (by omega)).trans h9, (cne (by omega)).trans h10, (cne (by omega)).trans h11, (cne (by omega)).trans h12⟩, fun i => by rw [World.frozen?_setCell]; exact h.frz i, by simpa [World.setCell] using h.lt⟩
theorem SvSt.s7 {wr : World} {b o c0 c1 : Nat} {v : World} {y : Sv} (h : SvSt wr b o c0 c1 v y) (u : Int) : SvSt wr b o c0 c1 (v.setCell ⟨b, o + 7, none⟩ (.int .i64 u)) { y with nx := u } := by
  obtain ⟨h0, h1, h2, h3, h4, h5, h6, h7, h8, h9, h10, h11, h12⟩ := h.cells
  have ht : Touch b (b + 1) v (v.setCell ⟨b, o + 7, none⟩ (.int .i64 u)) := Touch.setCell _ _ _ _ _ ⟨Nat.le_refl _, by simp only []; omega⟩
  have hbc := h.bc
  exact ⟨h.near.trans (Near.set _ _ _ _ _ _ _ _ (by omega) (by omega)), h.bc, ⟨(cne (by omega)).trans h0, (cne (by omega)).trans h1, (cne (by omega)).trans h2, (cne (by omega)).trans h3, (cne (by omega)).trans h4, (cne (by omega)).trans h5, (cne (by omega)).trans h6, World.cell?_setCell_same' _ _ _ (by rw [h7]; rfl), (cne (by omega)).trans h8, (cne (by omega)).trans h9, (cne (by omega)).trans h10, (cne (by omega)).trans h11, (cne (by omega)).trans h12⟩, fun i => by rw [World.frozen?_setCell]; exact h.frz i, by simpa [World.setCell] using h.lt⟩
theorem SvSt.s8 {wr : World} {b o c0 c1 : Nat} {v : World} {y : Sv} (h : SvSt wr b o c0 c1 v y) (u : Int) : SvSt wr b o c0 c1 (v.setCell ⟨b, o + 8, none⟩ (.int .i64 u)) { y with pr := u } := by
  obtain ⟨h0, h1, h2, h3, h4, h5, h6, h7, h8, h9, h10, h11, h12⟩ := h.cells
  have ht : Touch b (b + 1) v (v.setCell ⟨b, o + 8, none⟩ (.int .i64 u)) := Touch.setCell _ _ _ _ _ ⟨Nat.le_refl _, by simp only []; omega⟩
  have hbc := h.bc
  exact ⟨h.near.trans (Near.set _ _ _ _ _ _ _ _ (by omega) (by omega)), h.bc, ⟨(cne (by omega)).trans h0, (cne (by omega)).trans h1, (cne (by omega)).trans h2, (cne (by omega)).trans h3, (cne (by omega)).trans h4, (cne (by omega)).trans h5, (cne (by omega)).trans h6, (cne (by omega)).trans h7, World.cell?_setCell_same' _ _ _ (by rw [h8]; rfl), (cne (by omega)).trans h9, (cne (by omega)).trans h10, (cne (by omega)).trans h11, (cne (by omega)).trans h12⟩, fun i => by rw [World.frozen?_setCell]; exact h.frz i, by simpa [World.setCell] using h.lt⟩
theorem SvSt.s9 {wr : World} {b o c0 c1 : Nat} {v : World} {y : Sv} (h : SvSt wr b o c0 c1 v y) (u : Int) : SvSt wr b o c0 c1 (v.setCell ⟨b, o + 9, none⟩ (.int .i64 u)) { y with ls := u } := by
  obtain ⟨h0, h1, h2, h3, h4, h5, h6, h7, h8, h9, h10, h11, h12⟩ := h.cells
  have ht : Touch b (b + 1) v (v.setCell ⟨b, o + 9, none⟩ (.int .i64 u)) := Touch.setCell _ _ _ _ _ ⟨Nat.le_refl _, by simp only []; omega⟩
  have hbc := h.bc
  exact ⟨h.near.trans (Near.set _ _ _ _ _ _ _ _ (by omega) (by omega)), h.bc, ⟨(cne (by omega)).trans h0, (cne (by omega)).trans h1, (cne (by omega)).trans h2, (cne (by omega)).trans h3, (cne (by omega)).trans h4, (cne (by omega)).trans h5, (cne (by omega)).trans h6, (cne (by omega)).trans h7, (cne (by omega)).trans h8, World.cell?_setCell_same' _ _ _ (by rw [h9]; rfl), (cne (by omega)).trans h10, (cne (by omega)).trans h11, (cne (by omega)).trans h12⟩, fun i => by rw [World.frozen?_setCell]; exact h.frz i, by simpa [World.setCell] using h.lt⟩
theorem SvSt.s10 {wr : World} {b o c0 c1 : Nat} {v : World} {y : Sv} (h : SvSt wr b o c0 c1 v y) (u : Int) : SvSt wr b o c0 c1 (v.setCell ⟨b, o + 10, none⟩ (.int .i64 u)) { y with ms := u } := by
  obtain ⟨h0, h1, h2, h3, h4, h5, h6, h7, h8, h9, h10, h11, h12⟩ := h.cells
  have ht : Touch b (b + 1) v (v.setCell ⟨b, o + 10, none⟩ (.int .i64 u)) := Touch.setCell _ _ _ _ _ ⟨Nat.le_refl _, by simp only []; omega⟩
  have hbc := h.bc
  exact ⟨h.near.trans (Near.set _ _ _ _ _ _ _ _ (by omega) (by omega)), h.bc, ⟨(cne (by omega)).trans h0, (cne (by omega)).trans h1, (cne (by omega)).trans h2, (cne (by omega)).trans h3, (cne (by omega)).trans h4, (cne (by omega)).trans h5, (cne (by omega)).trans h6, (cne (by omega)).trans h7, (cne (by omega)).trans h8, (cne (by omega)).trans h9, World.cell?_setCell_same' _ _ _ (by rw [h10]; rfl), (cne (by omega)).trans h11, (cne (by omega)).trans h12⟩, fun i => by rw [World.frozen?_setCell]; exact h.frz i, by simpa [World.setCell] using h.lt⟩
theorem SvSt.s11 {wr : World} {b o c0 c1 : Nat} {v : World} {y : Sv} (h : SvSt wr b o c0 c1 v y) (u : Int) : SvSt wr b o c0 c1 (v.setCell ⟨b, o + 11, none⟩ (.int .i64 u)) { y with ld := u } := by
  obtain ⟨h0, h1, h2, h3, h4, h5, h6, h7, h8, h9, h10, h11, h12⟩ := h.cells
  have ht : Touch b (b + 1) v (v.setCell ⟨b, o + 11, none⟩ (.int .i64 u)) := Touch.setCell _ _ _ _ _ ⟨Nat.le_refl _, by simp only []; omega⟩
  have hbc := h.bc
  exact ⟨h.near.trans (Near.set _ _ _ _ _ _ _ _ (by omega) (by omega)), h.bc, ⟨(cne (by omega)).trans h0, (cne (by omega)).trans h1, (cne (by omega)).trans h2, (cne (by omega)).trans h3, (cne (by omega)).trans h4, (cne (by omega)).trans h5, (cne (by omega)).trans h6, (cne (by omega)).trans h7, (cne (by omega)).trans h8, (cne (by omega)).trans h9, (cne (by omega)).trans h10, World.cell?_setCell_same' _ _ _ (by rw [h11]; rfl), (cne (by omega)).trans h12⟩, fun i => by rw [World.frozen?_setCell]; exact h.frz i, by simpa [World.setCell] using h.lt⟩
theorem SvSt.s12 {wr : World} {b o c0 c1 : Nat} {v : World} {y : Sv} (h : SvSt wr b o c0 c1 v y) (u : Int) : SvSt wr b o c0 c1 (v.setCell ⟨b, o + 12, none⟩ (.int .i64 u)) { y with cl := u } := by
  obtain ⟨h0, h1, h2, h3, h4, h5, h6, h7, h8, h9, h10, h11, h12⟩ := h.cells
  have ht : Touch b (b + 1) v (v.setCell ⟨b, o + 12, none⟩ (.int .i64 u)) := Touch.setCell _ _ _ _ _ ⟨Nat.le_refl _, by simp only []; omega⟩
  have hbc := h.bc
  exact ⟨h.near.trans (Near.set _ _ _ _ _ _ _ _ (by omega) (by omega)), h.bc, ⟨(cne (by omega)).trans h0, (cne (by omega)).trans h1, (cne (by omega)).trans h2, (cne (by omega)).trans h3, (cne (by omega)).trans h4, (cne (by omega)).trans h5, (cne (by omega)).trans h6, (cne (by omega)).trans h7, (cne (by omega)).trans h8, (cne (by omega)).trans h9, (cne (by omega)).trans h10, (cne (by omega)).trans h11, World.cell?_setCell_same' _ _ _ (by rw [h12]; rfl)⟩, fun i => by rw [World.frozen?_setCell]; exact h.frz i, by simpa [World.setCell] using h.lt⟩
end Go.Proofs.YtemggnmooiaokaaGreat
namespace Go.Proofs.YtemggnmooiaokaaGreat
open Go.RowKit Go.Deep

def BeOne (b o _c0 _c1 : Nat) (w : World) (x : Be) : Prop := BeSize x ∧ BeCells w b o x
theorem BeOne.near {b o c0 c1 o1 d0 d1 : Nat} {w w' : World} {x : Be} (h : BeOne b o c0 c1 w x) (hn : Near b o1 2 d0 d1 w w') (ho : o + 2 ≤ o1 ∨ o1 + 2 ≤ o) (hi : c1 ≤ d0 ∨ d1 ≤ c0) (hb : b < c0 ∨ c1 ≤ b) : BeOne b o c0 c1 w' x := by
  obtain ⟨hs, hc⟩ := h
  obtain ⟨h0, h1⟩ := hc
  have e : ∀ t, t < 2 → w'.cell? ⟨b, o + t, none⟩ = w.cell? ⟨b, o + t, none⟩ := fun t ht => hn.cell _ (by omega)
  have e0 : w'.cell? ⟨b, o, none⟩ = w.cell? ⟨b, o, none⟩ := hn.cell _ (by omega)
  exact ⟨hs, ⟨e0.trans h0, (e 1 (by omega)).trans h1⟩⟩
theorem BeOne.touch {b o c0 c1 : Nat} {lo hi : Nat} {w w' : World} {x : Be} (h : BeOne b o c0 c1 w x) (ht : Touch lo hi w w') (hlt : b < w.heap.size) (hb : b < lo ∨ hi ≤ b) (_hi : c1 ≤ lo ∨ hi ≤ c0) : BeOne b o c0 c1 w' x := by
  obtain ⟨hs, hc⟩ := h
  obtain ⟨h0, h1⟩ := hc
  exact ⟨hs, ⟨(ht.cell (p := ⟨b, o, none⟩) hlt hb).trans h0, (ht.cell (p := ⟨b, o + 1, none⟩) hlt hb).trans h1⟩⟩
theorem BeOne.below {b o c0 c1 : Nat}  {w w' : World} {x : Be} (h : BeOne b o c0 c1 w x) (ht : Below w.heap.size w w') (hlt : b < w.heap.size) : BeOne b o c0 c1 w' x := by
  obtain ⟨hs, hc⟩ := h
  obtain ⟨h0, h1⟩ := hc
  exact ⟨hs, ⟨(ht.cell (p := ⟨b, o, none⟩) hlt).trans h0, (ht.cell (p := ⟨b, o + 1, none⟩) hlt).trans h1⟩⟩
structure BeRow (lo hi : Nat) (w : World) (b off n : Nat) (c : Nat → Nat) (X : Nat → Be) : Prop where
  lt : b < w.heap.size
  low : lo ≤ b
  bc : b < c 0
  bh : b < hi
  mono : ∀ i, i < n → c i ≤ c (i + 1)
  top : c n ≤ hi
  frz : ∀ i, w.frozen? ⟨b, i, none⟩ = false
  row : ∀ i, i < n → BeOne b (off + i * 2) (c i) (c (i + 1)) w (X i)
theorem BeRow.le {lo hi : Nat} {w : World} {b off n : Nat} {c : Nat → Nat} {X : Nat → Be} (h : BeRow lo hi w b off n c X) {i : Nat} : ∀ {j : Nat}, i ≤ j → j ≤ n → c i ≤ c j := by
  intro j
  induction j with
  | zero => intro hij _; have : i = 0 := by omega
            subst this; exact Nat.le_refl _
  | succ j ih =>
    intro hij hjn
    by_cases e : i = j + 1
    · subst e; exact Nat.le_refl _
    · exact Nat.le_trans (ih (by omega) (by omega)) (h.mono j (by omega))
theorem BeRow.near {lo hi : Nat} {w w' : World} {b off n : Nat} {c : Nat → Nat} {X : Nat → Be} (h : BeRow lo hi w b off n c X) {j : Nat} (hj : j < n) (hn : Near b (off + j * 2) 2 (c j) (c (j + 1)) w w') {x : Be} (hx : BeOne b (off + j * 2) (c j) (c (j + 1)) w' x) : BeRow lo hi w' b off n c (fun i => if i = j then x else X i) := by
  refine ⟨Nat.lt_of_lt_of_le h.lt hn.size, h.low, h.bc, h.bh, h.mono, h.top, fun i => (hn.frz i).trans (h.frz i), fun i hi' => ?_⟩
  by_cases e : i = j
  · subst e; rw [if_pos rfl]; exact hx
  · rw [if_neg e]
    have h0 := h.le (Nat.zero_le i) (by omega)
    have hbc := h.bc
    refine (h.row i hi').near hn (by omega) ?_ (by omega)
    rcases Nat.lt_or_ge i j with hij | hij
    · exact Or.inl (h.le (by omega) (by omega))
    · exact Or.inr (h.le (by omega) (by omega))
theorem BeRow.touch {lo hi lo' hi' : Nat} {w w' : World} {b off n : Nat} {c : Nat → Nat} {X : Nat → Be} (h : BeRow lo hi w b off n c X) (ht : Touch lo' hi' w w') (ho : hi ≤ lo' ∨ hi' ≤ lo) : BeRow lo hi w' b off n c X := by
  have h1 := h.low
  have h2 := h.bh
  have h3 := h.top
  have h4 := h.bc
  refine ⟨Nat.lt_of_lt_of_le h.lt ht.size, h.low, h.bc, h.bh, h.mono, h.top, fun i => (ht.frozen (p := ⟨b, i, none⟩) h.lt (by simp only []; omega)).trans (h.frz i), fun i hi' => ?_⟩
  have h5 := h.le (Nat.zero_le i) (by omega)
  have h6 := h.le (i := i + 1) (j := n) (by omega) (Nat.le_refl _)
  exact (h.row i hi').touch ht h.lt (by omega) (by omega)
theorem BeRow.below {lo hi : Nat} {w w' : World} {b off n : Nat} {c : Nat → Nat} {X : Nat → Be} (h : BeRow lo hi w b off n c X) (ht : Below w.heap.size w w') : BeRow lo hi w' b off n c X :=
  ⟨Nat.lt_of_lt_of_le h.lt ht.size, h.low, h.bc, h.bh, h.mono, h.top, fun i => (ht.frozen (p := ⟨b, i, none⟩) h.lt).trans (h.frz i), fun i hi' => (h.row i hi').below ht h.lt⟩
theorem BeRow.to {lo hi : Nat} {w : World} {b off n : Nat} {c : Nat → Nat} {X Y : Nat → Be} (h : BeRow lo hi w b off n c X) (e : ∀ i, i < n → X i = Y i) : BeRow lo hi w b off n c Y :=
  ⟨h.lt, h.low, h.bc, h.bh, h.mono, h.top, h.frz, fun i hi' => e i hi' ▸ h.row i hi'⟩
/-- a list of one's own -/
def BesOwn (lo hi : Nat) (w : World) (v : Value) (Xl : List Be) : Prop :=
  (∃ (a : Option Addr) (cap : Nat), v = .slice a 0 cap ∧ Xl = []) ∨
  ∃ (b off cap : Nat) (c : Nat → Nat) (X : Nat → Be), v = .slice (some ⟨b, off, none⟩) Xl.length cap ∧ Xl ≠ [] ∧ Xl.length ≤ maxLen ∧ Xl.length ≤ cap ∧ (∀ i (h : i < Xl.length), X i = Xl[i]) ∧ BeRow lo hi w b off Xl.length c X
theorem BesOwn.touch {lo hi lo' hi' : Nat} {w w' : World} {v : Value} {Xl : List Be} (h : BesOwn lo hi w v Xl) (ht : Touch lo' hi' w w') (ho : hi ≤ lo' ∨ hi' ≤ lo) : BesOwn lo hi w' v Xl := by
  rcases h with h | ⟨b, off, cap, c, X, h1, h2, h3, h4, h5, h6⟩
  · exact Or.inl h
  · exact Or.inr ⟨b, off, cap, c, X, h1, h2, h3, h4, h5, h6.touch ht ho⟩
theorem BesOwn.below {lo hi : Nat} {w w' : World} {v : Value} {Xl : List Be} (h : BesOwn lo hi w v Xl) (ht : Below w.heap.size w w') : BesOwn lo hi w' v Xl := by
  rcases h with h | ⟨b, off, cap, c, X, h1, h2, h3, h4, h5, h6⟩
  · exact Or.inl h
  · exact Or.inr ⟨b, off, cap, c, X, h1, h2, h3, h4, h5, h6.below ht⟩
theorem BesOwn.form {lo hi : Nat} {w : World} {v : Value} {Xl : List Be} (h : BesOwn lo hi w v Xl) : ∃ a cap, v = .slice a Xl.length cap := by
  rcases h with ⟨a, cap, h, rfl⟩ | ⟨b, off, cap, c, X, h1, _⟩
  · exact ⟨a, cap, h⟩
  · exact ⟨_, cap, h1⟩
theorem BesOwn.at {lo hi : Nat} {w : World} {v : Value} {Xl : List Be} (h : BesOwn lo hi w v Xl) : BesAt lo w v Xl := by
  rcases h with h | ⟨b, off, cap, c, X, h1, h2, h3, h4, h5, h6⟩
  · exact Or.inl h
  · refine Or.inr ⟨b, off, cap, h1, h2, h3, h6.lt, h6.low, h4, fun i hi' => ?_⟩
    have hr := h6.row i hi'
    rw [h5 i hi'] at hr
    obtain ⟨hs, hc⟩ := hr
    exact ⟨hs, hc⟩
/-- marks from k on -/
def mkBe (k : Int) (_x : Be) : Be := ⟨mtB (k), ((k + 1) % 3 == 0)⟩
def wdBe (_x : Be) : Nat := 2
def posBe (Xl : List Be) (i : Nat) : Nat := ((Xl.take i).map wdBe).sum
def mkBes (k : Int) (Xl : List Be) : List Be := Xl.mapIdx (fun i x => mkBe (k + (posBe Xl i : Int)) x)
theorem mkBes_len (k : Int) (Xl : List Be) : (mkBes k Xl).length = Xl.length := by unfold mkBes; simp
theorem mkBes_get (k : Int) (Xl : List Be) (i : Nat) (h : i < (mkBes k Xl).length) (h' : i < Xl.length) : (mkBes k Xl)[i] = mkBe (k + (posBe Xl i : Int)) Xl[i] := List.getElem_mapIdx (f := fun i x => mkBe (k + (posBe Xl i : Int)) x) (h := h)
theorem posBe_succ {Xl : List Be} {i : Nat} (h : i < Xl.length) : posBe Xl (i + 1) = posBe Xl i + wdBe Xl[i] := by
  unfold posBe
  rw [List.take_succ_eq_append_getElem h, List.map_append, List.sum_append]
  simp
theorem posBe_le {Xl : List Be} (_hn : BesSmall Xl) : ∀ {i : Nat}, i ≤ Xl.length → posBe Xl i ≤ i * 3000000 := by
  intro i
  induction i with
  | zero => intro _; simp [posBe]
  | succ i ih =>
    intro hi'
    have h1 := ih (by omega)
    rw [posBe_succ (by omega)]
    have h2 : wdBe Xl[i] ≤ 3000000 := by
      unfold wdBe
      omega
    omega
theorem posBe_all {Xl : List Be} {i : Nat} (h : Xl.length ≤ i) : posBe Xl i = posBe Xl Xl.length := by
  unfold posBe
  rw [List.take_of_length_le h, List.take_of_length_le (Nat.le_refl _)]
structure BeSt (wr : World) (b o c0 c1 : Nat) (v : World) (y : Be) : Prop where
  near : Near b o 2 c0 c1 wr v
  bc : b < c0
  cells : BeCells v b o y
  frz : ∀ i, v.frozen? ⟨b, i, none⟩ = false
  lt : b < v.heap.size
theorem BeSt.below {wr : World} {b o c0 c1 : Nat} {v v' : World} {y : Be} (h : BeSt wr b o c0 c1 v y) (hb : Below v.heap.size v v') : BeSt wr b o c0 c1 v' y :=
  ⟨h.near.trans (Near.below hb h.lt), h.bc, h.cells.below hb h.lt, fun i => (hb.frozen (p := ⟨b, i, none⟩) h.lt).trans (h.frz i), Nat.lt_of_lt_of_le h.lt hb.size⟩
theorem BeSt.s0 {wr : World} {b o c0 c1 : Nat} {v : World} {y : Be} (h : BeSt wr b o c0 c1 v y) (u : ByteArray) : BeSt wr b o c0 c1 (v.setCell ⟨b, o, none⟩ (.string u)) { y with nm := u } := by
  obtain ⟨h0, h1⟩ := h.cells
  have ht : Touch b (b + 1) v (v.setCell ⟨b, o, none⟩ (.string u)) := Touch.setCell _ _ _ _ _ ⟨Nat.le_refl _, by simp only []; omega⟩
  have hbc := h.bc
  exact ⟨h.near.trans (Near.set _ _ _ _ _ _ _ _ (by omega) (by omega)), h.bc, ⟨World.cell?_setCell_same' _ _ _ (by rw [h0]; rfl), (cne (by omega)).trans h1⟩, fun i => by rw [World.frozen?_setCell]; exact h.frz i, by simpa [World.setCell] using h.lt⟩
theorem BeSt.s1 {wr : World} {b o c0 c1 : Nat} {v : World} {y : Be} (h : BeSt wr b o c0 c1 v y) (u : Bool) : BeSt wr b o c0 c1 (v.setCell ⟨b, o + 1, none⟩ (.bool u)) { y with dr := u } := by
  obtain ⟨h0, h1⟩ := h.cells
  have ht : Touch b (b + 1) v (v.setCell ⟨b, o + 1, none⟩ (.bool u)) := Touch.setCell _ _ _ _ _ ⟨Nat.le_refl _, by simp only []; omega⟩
  have hbc := h.bc
  exact ⟨h.near.trans (Near.set _ _ _ _ _ _ _ _ (by omega) (by omega)), h.bc, ⟨(cne (by omega)).trans h0, World.cell?_setCell_same' _ _ _ (by rw [h1]; rfl)⟩, fun i => by rw [World.frozen?_setCell]; exact h.frz i, by simpa [World.setCell] using h.lt⟩
end Go.Proofs.YtemggnmooiaokaaGreat
