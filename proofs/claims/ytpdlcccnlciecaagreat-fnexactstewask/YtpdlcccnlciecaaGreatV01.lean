import Derived.Test.YtpdlcccnlciecaaGreatV00
import Derived.BigQuiet
import Derived.Deep.MidRow
import Derived.Deep.RegionHeld3
import Derived.Deep.DeepCutAuto
namespace Go.Proofs.YtpdlcccnlciecaaGreat
open Go.RowKit Go.Deep

/-- the worlds of a class -/
structure In (C : World → Prop) where
  w : World
  h : C w
/-- a region that draws, walked once in the order of the text, every operation staying inside a class of worlds -/
theorem wp_region_class {P : Program} {id : Nat} {Q : Exit → Act → World → Prop} {a : Act} {w : World} {l : List Oper} (C : World → Prop) (hm : P.follows .mixedOrders = true) (hB : Region.lexB .any l.toArray = true) (hC : C w.drew)
    (h : wpQuiet P l.toArray (fun w' => ∃ X : In C, w' = X.w) (fun a' => ∀ w', (∃ X : In C, w' = X.w) → Q .normal a' w') l a) : (Code.region id l.toArray true).wp P Q a w :=
  wp_region_quiet (C := fun w' => ∃ X : In C, w' = X.w) hm hB ⟨⟨_, hC⟩, rfl⟩ (by simpa using h)
theorem in_self {C : World → Prop} (X : In C) : (∃ Y : In C, X.w = Y.w) = True := eq_true ⟨X, rfl⟩
/-- two boxes, and memory that is only added to -/
structure Cls (W0 : World) (b1 : Nat) (cs1 : Array Value) (b2 : Nat) (cs2 : Array Value) (W : World) : Prop where
  on : Below W0.heap.size W0 W
  x1 : Box W0 b1 cs1
  x2 : Box W0 b2 cs2
theorem Cls.c1 {W0 : World} {b1 : Nat} {cs1 : Array Value} {b2 : Nat} {cs2 : Array Value} (X : In (Cls W0 b1 cs1 b2 cs2)) (i : Nat) : X.w.cell? ⟨b1, i, none⟩ = cs1[i]? := (X.h.x1.on X.h.on).cell i
theorem Cls.c2 {W0 : World} {b1 : Nat} {cs1 : Array Value} {b2 : Nat} {cs2 : Array Value} (X : In (Cls W0 b1 cs1 b2 cs2)) (i : Nat) : X.w.cell? ⟨b2, i, none⟩ = cs2[i]? := (X.h.x2.on X.h.on).cell i
theorem Cls.next {W0 : World} {b1 : Nat} {cs1 : Array Value} {b2 : Nat} {cs2 : Array Value} (X : In (Cls W0 b1 cs1 b2 cs2)) {W' : World} (h : Below X.w.heap.size X.w W') : ∃ Y : In (Cls W0 b1 cs1 b2 cs2), W' = Y.w :=
  ⟨⟨W', ⟨X.h.on.trans (h.mono X.h.on.size), X.h.x1, X.h.x2⟩⟩, rfl⟩
abbrev Up (W0 : World) : World → Prop := fun W => Below W0.heap.size W0 W
theorem Up.cell {W0 : World} (X : In (Up W0)) {p : Addr} {v : Value} (h : W0.cell? p = some v) : X.w.cell? p = some v :=
  (Below.cell (show Below W0.heap.size W0 X.w from X.h) (World.block_lt_of_cell? W0 _ h)).trans h
theorem Up.next {W0 : World} (X : In (Up W0)) {W' : World} (h : Below X.w.heap.size X.w W') : ∃ Y : In (Up W0), W' = Y.w :=
  ⟨⟨W', X.h.trans (h.mono X.h.size)⟩, rfl⟩
theorem Up.same {W0 : World} (X : In (Up W0)) {W' : World} (h : W' = X.w) : ∃ Y : In (Up W0), W' = Y.w := ⟨X, h⟩
/-! ranges of cells -/
theorem rng_below {w w' : World} {m b o : Nat} {cs : List Value} (h : w.rangeAt b o cs) (hb : Below m w w') (hlt : b < m) : w'.rangeAt b o cs := fun j v hv => by
  rw [hb.cell (p := ⟨b, o + j, none⟩) hlt]; exact h j v hv
theorem rng_set {w : World} {b o : Nat} {cs : List Value} (h : w.rangeAt b o cs) {p : Addr} (hp : b ≠ p.block) (u : Value) : (w.setCell p u).rangeAt b o cs := fun j v hv => by
  rw [cell_setCell_ne _ _ _ _ hp]; exact h j v hv
theorem there_below {w w' : World} {m b o n : Nat} (h : w.there b o n) (hb : Below m w w') (hlt : b < m) : w'.there b o n := fun j hj => by
  rw [hb.cell (p := ⟨b, o + j, none⟩) hlt, hb.frozen (p := ⟨b, o + j, none⟩) hlt]; exact h j hj
theorem there_part {w : World} {b n m o : Nat} (h : w.there b 0 n) (hle : o + m ≤ n) : w.there b o m := fun j hj => by
  have := h (o + j) (by omega)
  rwa [Nat.zero_add] at this
theorem size_sets (b : Nat) : ∀ (vs : List Value) (o : Nat) (w : World), (w.setCells b o vs).heap.size = w.heap.size
  | [], _, _ => rfl
  | v :: vs, o, w => (size_sets b vs (o + 1) (w.setCell ⟨b, o, none⟩ v)).trans (by simp [World.setCell])
theorem Below.sets {n b : Nat} (hb : n ≤ b) : ∀ (vs : List Value) (o : Nat) {a w : World}, Below n a w → Below n a (w.setCells b o vs)
  | [], _, _, _, h => h
  | v :: vs, o, _, _, h => Below.sets hb vs (o + 1) (h.setCell hb v)
theorem there_made (w : World) (C : Array Value) (t : TypeId) (n : Nat) (hn : C.size = n) : (w.alloc (.cells C t)).there w.heap.size 0 n := fun j hj => by
  have := World.rowIs_alloc w C t (fun i => C.getD i default) (fun i hi => by simp [Array.getD, hi])
  rw [Nat.zero_add]
  exact ⟨by rw [this.cell (by omega)]; rfl, this.frozen j⟩
/-- a struct's load in a quiet walk -/
theorem wpQuiet_load_mid {P : Program} {ops : Array Oper} {C : World → Prop} {Q : Act → Prop} {a : Act} {o : Oper} {rest : List Oper} (hw : Region.wanted o (yielded ops a.tmps) = true) (ty : TypeId) (x : Operand) (ho : o.op = .load ty x)
    (b off : Nat) (hx : a.eval x = .pointer (some ⟨b, off, none⟩)) (cs : List Value) (d : TypeDesc) (hC : ∀ w, C w → w.rangeAt b off cs)
    (hu : P.underlying ty = some d) (hd : d.isRow = true) (hi : (P.info? ty).map (·.size) = some cs.length)
    (h : wpQuiet P ops C Q rest (a.put o.dst (.agg cs.toArray))) : wpQuiet P ops C Q (o :: rest) a :=
  BigFrame.wpQuiet_want hw fun K hK => ⟨.agg cs.toArray, fun w hw' => by
    unfold Oper.quietAt execOp
    simp only [ho, hx, Instr.loadAt, Instr.sureAddr, Sem.run_bind, Sem.run_pure, Result.andThen_ok, run_loadVar_mid w b off ty cs d (hC w hw') hu hd hi, Oper.quietUpon, and_self], hK _ h⟩
/-- a struct's load that is guarded, in a plain region -/
theorem wpList_load_gd {P : Program} {ops : Array Oper} {rest : List Oper} {op : Oper} {a : Act} {w : World} {Q : Exit → Act → World → Prop} (hw : Region.wanted op (yielded ops a.tmps) = true) (ty : TypeId) (x : Operand) (ho : op.op = .load ty x)
    (b o : Nat) (hx : a.eval x = .pointer (some ⟨b, o, none⟩)) (cs : List Value) (d : TypeDesc) (hc : w.rangeAt b o cs)
    (hu : P.underlying ty = some d) (hd : d.isRow = true) (hi : (P.info? ty).map (·.size) = some cs.length)
    (h : wpList P ops Q rest (a.put op.dst (.agg cs.toArray)) w) : wpList P ops Q (op :: rest) a w :=
  BigFrame.wpList_want hw fun _ hK => wp_load_mid ty x ho b o hx cs d hc hu hd hi (hK _ _ h)
theorem Box.there {w : World} {β n : Nat} {cs : Array Value} (h : Box w β cs) (hn : cs.size = n) : w.there β 0 n := fun j hj => by
  rw [Nat.zero_add, h.cell j, h.free j]
  exact ⟨by rw [Array.getElem?_eq_getElem (by omega)]; rfl, rfl⟩
theorem Box.range {w : World} {β : Nat} {cs : Array Value} (h : Box w β cs) {l : List Value} (hl : cs = l.toArray) : w.rangeAt β 0 l := fun j v hv => by
  rw [Nat.zero_add, h.cell j, hl]
  simpa using hv
theorem Box.full {w : World} {β : Nat} {cs cs' : Array Value} (h : Box w β cs) (hs : cs.size = cs'.size) : Box (w.setCells β 0 cs'.toList) β cs' := by
  refine ⟨by rw [size_sets]; exact h.lt, fun i => ?_, fun i => by rw [World.frozen?_setCells]; exact h.free i⟩
  by_cases hi : i < cs'.size
  · have := World.cell?_setCells_in β cs'.toList 0 w (fun j hj => (h.there rfl j (by rw [hs]; simpa using hj)).1) i (by simpa using hi)
    rw [Nat.zero_add] at this
    rw [this, Array.getElem?_eq_getElem hi]
    simp
  · rw [World.cell?_setCells_out β cs'.toList 0 w ⟨β, i, none⟩ (fun _ _ => Or.inr (by simp; omega)), h.cell i, Array.getElem?_eq_none (by omega), Array.getElem?_eq_none (by omega)]
end Go.Proofs.YtpdlcccnlciecaaGreat
namespace Go.Proofs.YtpdlcccnlciecaaGreat
open Go.RowKit Go.Deep

structure En where
  nu : Int
  sn : Int
structure EnSize (x : En) : Prop where
  s : True
def EnSmall (x : En) : Prop := x = x
structure EnCells (w : World) (b o : Nat) (x : En) : Prop where
  c0 : w.cell? ⟨b, o, none⟩ = some (.int .i64 x.nu)
  c1 : w.cell? ⟨b, o + 1, none⟩ = some (.int .i64 x.sn)
theorem EnCells.below {w w' : World} {b o : Nat} {x : En} (h : EnCells w b o x ) {m : Nat} (hb : Below m w w') (hlt : b < m) : EnCells w' b o x  := by
  have e : ∀ o, w'.cell? ⟨b, o, none⟩ = w.cell? ⟨b, o, none⟩ := fun o => hb.cell (p := ⟨b, o, none⟩) hlt
  exact ⟨by rw [e]; exact h.c0, by rw [e]; exact h.c1⟩
theorem EnCells.set {w : World} {b o : Nat} {x : En} (h : EnCells w b o x ) {p : Addr} (hp : b ≠ p.block) (u : Value) : EnCells (w.setCell p u) b o x  := by
  have e : ∀ o, (w.setCell p u).cell? ⟨b, o, none⟩ = w.cell? ⟨b, o, none⟩ := fun o => cell_setCell_ne _ _ _ _ hp
  exact ⟨by rw [e]; exact h.c0, by rw [e]; exact h.c1⟩
def EnsAt (lo : Nat) (w : World) (v : Value) (Xl : List En) : Prop :=
  (∃ (a : Option Addr) (cap : Nat), v = .slice a 0 cap ∧ Xl = []) ∨
  ∃ (b off cap : Nat), v = .slice (some ⟨b, off, none⟩) Xl.length cap ∧ Xl ≠ [] ∧ Xl.length ≤ maxLen ∧ b < w.heap.size ∧ lo ≤ b ∧ Xl.length ≤ cap ∧
    ∀ i (h : i < Xl.length), EnSize Xl[i] ∧ EnCells w b (off + i * 2) Xl[i]
theorem EnsAt.below {lo : Nat} {w w' : World} {v : Value} {Xl : List En} (h : EnsAt lo w v Xl) (hb : Below w.heap.size w w') : EnsAt lo w' v Xl := by
  rcases h with h | ⟨b, off, cap, h1, h2, h3, h4, h5, h6, h7⟩
  · exact Or.inl h
  · refine Or.inr ⟨b, off, cap, h1, h2, h3, Nat.lt_of_lt_of_le h4 hb.size, h5, h6, fun i hi => ?_⟩
    obtain ⟨hs, hc⟩ := h7 i hi
    exact ⟨hs, hc.below hb h4⟩
theorem EnsAt.mono {lo lo' : Nat} {w : World} {v : Value} {Xl : List En} (h : EnsAt lo w v Xl) (hl : lo' ≤ lo) : EnsAt lo' w v Xl := by
  rcases h with h | ⟨b, off, cap, h1, h2, h3, h4, h5, h6, h7⟩
  · exact Or.inl h
  · refine Or.inr ⟨b, off, cap, h1, h2, h3, h4, Nat.le_trans hl h5, h6, fun i hi => ?_⟩
    obtain ⟨hs, hc⟩ := h7 i hi
    exact ⟨hs, hc⟩
theorem EnsAt.set {lo : Nat} {w : World} {v : Value} {Xl : List En} (h : EnsAt lo w v Xl) {p : Addr} (hp : p.block < lo) (u : Value) : EnsAt lo (w.setCell p u) v Xl := by
  rcases h with h | ⟨b, off, cap, h1, h2, h3, h4, h5, h6, h7⟩
  · exact Or.inl h
  · refine Or.inr ⟨b, off, cap, h1, h2, h3, by simpa [World.setCell] using h4, h5, h6, fun i hi => ?_⟩
    obtain ⟨hs, hc⟩ := h7 i hi
    exact ⟨hs, hc.set (by omega) u⟩
theorem EnsAt.form {lo : Nat} {w : World} {v : Value} {Xl : List En} (h : EnsAt lo w v Xl) : ∃ a cap, v = .slice a Xl.length cap := by
  rcases h with ⟨a, cap, h, rfl⟩ | ⟨b, off, cap, h, _⟩
  · exact ⟨a, cap, h⟩
  · exact ⟨_, cap, h⟩
theorem EnsAt.max {lo : Nat} {w : World} {v : Value} {Xl : List En} (h : EnsAt lo w v Xl) : Xl.length ≤ maxLen := by
  rcases h with ⟨a, cap, h, rfl⟩ | ⟨b, off, cap, h, _, h3, _⟩
  · exact Nat.zero_le _
  · exact h3
theorem EnsAt.full {lo : Nat} {w : World} {v : Value} {Xl : List En} (h : EnsAt lo w v Xl) (hne : Xl ≠ []) : ∃ (b off cap : Nat), v = .slice (some ⟨b, off, none⟩) Xl.length cap ∧ Xl.length ≤ maxLen ∧ b < w.heap.size ∧ Xl.length ≤ cap ∧
    ∀ i (h : i < Xl.length), EnSize Xl[i] ∧ EnCells w b (off + i * 2) Xl[i] := by
  rcases h with ⟨_, _, _, h⟩ | ⟨b, off, cap, h1, _, h3, h4, _, h6, h7⟩
  · exact absurd h hne
  · exact ⟨b, off, cap, h1, h3, h4, h6, h7⟩
theorem EnsAt.full' {lo : Nat} {w : World} {a : Option Addr} {n cap : Nat} {Xl : List En} (h : EnsAt lo w (.slice a n cap) Xl) (hL : 0 < Xl.length) :
    ∃ b off, a = some ⟨b, off, none⟩ ∧ b < w.heap.size ∧ lo ≤ b ∧ ∀ i (h : i < Xl.length), EnSize Xl[i] ∧ EnCells w b (off + i * 2) Xl[i] := by
  rcases h with ⟨a', cap', h, rfl⟩ | ⟨b', off', cap', h1, h2, h3, h4, h5, h6, h7⟩
  · simp at hL
  · injection h1 with e1 e2 e3
    exact ⟨b', off', e1, h4, h5, h7⟩
def EnsSmall (Xl : List En) : Prop := Xl.length ≤ 1048576 ∧ ∀ i (h : i < Xl.length), EnSmall Xl[i]
def SzEns (Xl : List En) (left r : Int) : Prop := -1 ≤ r ∧ r ≤ left ∧ (0 ≤ r → EnsSmall Xl)

set_option maxHeartbeats 1000000 in
theorem eqEn_same (x : En) (w : World) :
    Calls Tryz.prog 81 #[.agg #[.int .i64 x.nu, .int .i64 x.sn], .agg #[.int .i64 x.nu, .int .i64 x.sn]] w fun e w' => e = .returned (.bool true) ∧ Below w.heap.size w w' := by
  go_enter Tryz.func81, Tryz.ntmps81
  go_wp2
  go_ret
  exact ⟨rfl, ((Below.refl _ _).alloc (Nat.le_refl _) _).alloc (by simp) _⟩

set_option maxHeartbeats 1000000 in
theorem eqEns_same (lo lo' : Nat) (v v' : Value) (Xl : List En) (w : World) (hv : EnsAt lo w v Xl) (hv' : EnsAt lo' w v' Xl) :
    Calls Tryz.prog 57 #[v, v'] w fun e w' => e = .returned (.bool true) ∧ Below w.heap.size w w' := by
  by_cases hL : Xl = []
  · subst hL
    obtain ⟨a, cap, rfl⟩ := hv.form
    obtain ⟨a', cap', rfl⟩ := hv'.form
    clear hv hv'
    go_enter Tryz.func57, Tryz.ntmps57
    go_wp2
    go_loop [5] (fun i => i = .int .i64 0) (fun _ => 0)
    case atStart => rfl
    case round =>
      subst hrel
      go_wp2
      go_ret
      exact ⟨rfl, Below.refl _ _⟩
  · obtain ⟨b, off, cap, rfl, hm, hbw, _, hc⟩ := hv.full hL
    obtain ⟨b', off', cap', rfl, _, hbw', _, hc'⟩ := hv'.full hL
    clear hv hv'
    unfold maxLen at hm
    go_enter Tryz.func57, Tryz.ntmps57
    go_wp2
    go_loopw [5] (fun i wr => ∃ k : Nat, i = .int .i64 k ∧ k ≤ Xl.length ∧ Below w.heap.size w wr) (fun i _ => Xl.length - (intOf i).toNat)
    case atStart => exact ⟨0, rfl, by omega, Below.refl _ _⟩
    case round =>
      obtain ⟨k, rfl, hk, hb⟩ := hrel
      by_cases hlt : k < Xl.length
      · obtain ⟨hs, hc⟩ := hc k hlt
        obtain ⟨ht, hd⟩ := hc' k hlt
        obtain ⟨c0, c1⟩ := hc.below hb hbw
        obtain ⟨d0, d1⟩ := hd.below hb hbw'
        clear hc hd   hs ht
        have HB := hide hb
        clear hb
        go_wp2
        go_region_with (go_at_call 81; refine (eqEn_same _  _  ).mono ?_; rintro e w1 ⟨rfl, hb1⟩; have hB : Hid (Below w.heap.size w w1) := (HB.out.drew).trans (hb1.mono HB.out.size); clear hb1)
        all_goals go_wp2
        all_goals go_roundw
        all_goals first
          | (case rel => exact ⟨k + 1, by go_num, by omega, hB.out⟩)
          | (case measure => simp [intOf]; omega)
      · go_wp2
        go_ret
        exact ⟨rfl, hb⟩

theorem Tryz.info113 : (Tryz.prog.info? 113).map (fun i => (i.zero, i.size, i.bytes)) = some (some (.agg #[.int .i64 0, .int .i64 0]), 2, 16) := by kernel_rfl
def EnsFill (wr : World) (B : Nat) (Xl : List En) (k : Nat) : Prop :=
  ∃ f, wr.rowIs B 113 (Xl.length * 2) f ∧ ∀ i (h : i < Xl.length), i < k → EnSize Xl[i] ∧ f (i * 2) = .int .i64 Xl[i].nu ∧ f (i * 2 + 1) = .int .i64 Xl[i].sn
theorem EnsFill.below {wr w1 : World} {B : Nat} {Xl : List En} {k : Nat} (h : EnsFill wr B Xl k) (hb : Below wr.heap.size wr w1) : EnsFill w1 B Xl k := by
  obtain ⟨f, hr, hall⟩ := h
  refine ⟨f, hr.of_block (hb.block B hr.lt), fun i hi hik => ?_⟩
  obtain ⟨hz, h0, h1⟩ := hall i hi hik
  exact ⟨hz, h0, h1⟩
theorem EnsFill.free {wr : World} {B : Nat} {Xl : List En} {k : Nat} (h : EnsFill wr B Xl k) (i : Nat) : wr.frozen? ⟨B, i, none⟩ = false := by
  obtain ⟨f, hr, _⟩ := h
  exact hr.frozen i
theorem EnsFill.there {wr : World} {B : Nat} {Xl : List En} {k : Nat} (h : EnsFill wr B Xl k) (i : Nat) (hi : i < Xl.length * 2) : ∃ v, wr.cell? ⟨B, i, none⟩ = some v := by
  obtain ⟨f, hr, _⟩ := h
  exact ⟨_, hr.cell hi⟩
theorem EnsFill.step {w1 : World} {B : Nat} {Xl : List En} {k : Nat} (h : EnsFill w1 B Xl k) (hk : k < Xl.length) (hz : EnSize Xl[k]) :
    EnsFill ((w1.setCell ⟨B, k * 2, none⟩ (.int .i64 Xl[k].nu)).setCell ⟨B, k * 2 + 1, none⟩ (.int .i64 Xl[k].sn)) B Xl (k + 1) := by
  obtain ⟨f, hr, hall⟩ := h
  refine ⟨_, ((hr.set _ _).set _ _), fun i hi hik => ?_⟩
  by_cases e : i = k
  · subst e
    refine ⟨hz, by simp, by simp⟩
  · obtain ⟨hz', h0, h1⟩ := hall i hi (by omega)
    refine ⟨hz', ?_, ?_⟩
    · rw [if_neg (by omega), if_neg (by omega)]; exact h0
    · rw [if_neg (by omega), if_neg (by omega)]; exact h1

theorem EnsFill.done {wr : World} {B : Nat} {Xl : List En} {k : Nat} (h : EnsFill wr B Xl k) (hk : Xl.length ≤ k) (hne : Xl ≠ []) (hm : Xl.length ≤ maxLen) : EnsAt B wr (.slice (some ⟨B, 0, none⟩) Xl.length Xl.length) Xl := by
  obtain ⟨f, hr, hall⟩ := h
  refine Or.inr ⟨B, 0, Xl.length, rfl, hne, hm, hr.lt, Nat.le_refl _, Nat.le_refl _, fun i hi => ?_⟩
  obtain ⟨hz, h0, h1⟩ := hall i hi (by omega)
  rw [Nat.zero_add]
  exact ⟨hz, ⟨by rw [hr.cell (by omega), h0], by rw [hr.cell (by omega), h1]⟩⟩
theorem EnsFill.new (w : World) (Xl : List En) (z : Array Value) : EnsFill (w.alloc (.cells (madeCells z (Xl.length * 2)) 113)) w.heap.size Xl 0 := by
  refine ⟨fun i => (madeCells z (Xl.length * 2)).getD i default, ?_, fun i _ h => by omega⟩
  have := World.rowIs_alloc w (madeCells z (Xl.length * 2)) 113 (fun i => (madeCells z (Xl.length * 2)).getD i default) (fun i hi => by simp [Array.getD, hi])
  rwa [size_madeCells] at this

end Go.Proofs.YtpdlcccnlciecaaGreat
namespace Go.Proofs.YtpdlcccnlciecaaGreat
open Go.RowKit Go.Deep

structure Be where
  nm : ByteArray
  dr : Bool
structure BeSize (x : Be) : Prop where
  s0 : x.nm.size ≤ maxLen
def BeSmall (x : Be) : Prop := x = x
structure BeCells (w : World) (b o : Nat) (x : Be) : Prop where
  c0 : w.cell? ⟨b, o, none⟩ = some (.string x.nm)
  c1 : w.cell? ⟨b, o + 1, none⟩ = some (.bool x.dr)
theorem BeCells.below {w w' : World} {b o : Nat} {x : Be} (h : BeCells w b o x ) {m : Nat} (hb : Below m w w') (hlt : b < m) : BeCells w' b o x  := by
  have e : ∀ o, w'.cell? ⟨b, o, none⟩ = w.cell? ⟨b, o, none⟩ := fun o => hb.cell (p := ⟨b, o, none⟩) hlt
  exact ⟨by rw [e]; exact h.c0, by rw [e]; exact h.c1⟩
theorem BeCells.set {w : World} {b o : Nat} {x : Be} (h : BeCells w b o x ) {p : Addr} (hp : b ≠ p.block) (u : Value) : BeCells (w.setCell p u) b o x  := by
  have e : ∀ o, (w.setCell p u).cell? ⟨b, o, none⟩ = w.cell? ⟨b, o, none⟩ := fun o => cell_setCell_ne _ _ _ _ hp
  exact ⟨by rw [e]; exact h.c0, by rw [e]; exact h.c1⟩
def BesAt (lo : Nat) (w : World) (v : Value) (Xl : List Be) : Prop :=
  (∃ (a : Option Addr) (cap : Nat), v = .slice a 0 cap ∧ Xl = []) ∨
  ∃ (b off cap : Nat), v = .slice (some ⟨b, off, none⟩) Xl.length cap ∧ Xl ≠ [] ∧ Xl.length ≤ maxLen ∧ b < w.heap.size ∧ lo ≤ b ∧ Xl.length ≤ cap ∧
    ∀ i (h : i < Xl.length), BeSize Xl[i] ∧ BeCells w b (off + i * 2) Xl[i]
theorem BesAt.below {lo : Nat} {w w' : World} {v : Value} {Xl : List Be} (h : BesAt lo w v Xl) (hb : Below w.heap.size w w') : BesAt lo w' v Xl := by
  rcases h with h | ⟨b, off, cap, h1, h2, h3, h4, h5, h6, h7⟩
  · exact Or.inl h
  · refine Or.inr ⟨b, off, cap, h1, h2, h3, Nat.lt_of_lt_of_le h4 hb.size, h5, h6, fun i hi => ?_⟩
    obtain ⟨hs, hc⟩ := h7 i hi
    exact ⟨hs, hc.below hb h4⟩
theorem BesAt.mono {lo lo' : Nat} {w : World} {v : Value} {Xl : List Be} (h : BesAt lo w v Xl) (hl : lo' ≤ lo) : BesAt lo' w v Xl := by
  rcases h with h | ⟨b, off, cap, h1, h2, h3, h4, h5, h6, h7⟩
  · exact Or.inl h
  · refine Or.inr ⟨b, off, cap, h1, h2, h3, h4, Nat.le_trans hl h5, h6, fun i hi => ?_⟩
    obtain ⟨hs, hc⟩ := h7 i hi
    exact ⟨hs, hc⟩
theorem BesAt.set {lo : Nat} {w : World} {v : Value} {Xl : List Be} (h : BesAt lo w v Xl) {p : Addr} (hp : p.block < lo) (u : Value) : BesAt lo (w.setCell p u) v Xl := by
  rcases h with h | ⟨b, off, cap, h1, h2, h3, h4, h5, h6, h7⟩
  · exact Or.inl h
  · refine Or.inr ⟨b, off, cap, h1, h2, h3, by simpa [World.setCell] using h4, h5, h6, fun i hi => ?_⟩
    obtain ⟨hs, hc⟩ := h7 i hi
    exact ⟨hs, hc.set (by omega) u⟩
theorem BesAt.form {lo : Nat} {w : World} {v : Value} {Xl : List Be} (h : BesAt lo w v Xl) : ∃ a cap, v = .slice a Xl.length cap := by
  rcases h with ⟨a, cap, h, rfl⟩ | ⟨b, off, cap, h, _⟩
  · exact ⟨a, cap, h⟩
  · exact ⟨_, cap, h⟩
theorem BesAt.max {lo : Nat} {w : World} {v : Value} {Xl : List Be} (h : BesAt lo w v Xl) : Xl.length ≤ maxLen := by
  rcases h with ⟨a, cap, h, rfl⟩ | ⟨b, off, cap, h, _, h3, _⟩
  · exact Nat.zero_le _
  · exact h3
theorem BesAt.full {lo : Nat} {w : World} {v : Value} {Xl : List Be} (h : BesAt lo w v Xl) (hne : Xl ≠ []) : ∃ (b off cap : Nat), v = .slice (some ⟨b, off, none⟩) Xl.length cap ∧ Xl.length ≤ maxLen ∧ b < w.heap.size ∧ Xl.length ≤ cap ∧
    ∀ i (h : i < Xl.length), BeSize Xl[i] ∧ BeCells w b (off + i * 2) Xl[i] := by
  rcases h with ⟨_, _, _, h⟩ | ⟨b, off, cap, h1, _, h3, h4, _, h6, h7⟩
  · exact absurd h hne
  · exact ⟨b, off, cap, h1, h3, h4, h6, h7⟩
theorem BesAt.full' {lo : Nat} {w : World} {a : Option Addr} {n cap : Nat} {Xl : List Be} (h : BesAt lo w (.slice a n cap) Xl) (hL : 0 < Xl.length) :
    ∃ b off, a = some ⟨b, off, none⟩ ∧ b < w.heap.size ∧ lo ≤ b ∧ ∀ i (h : i < Xl.length), BeSize Xl[i] ∧ BeCells w b (off + i * 2) Xl[i] := by
  rcases h with ⟨a', cap', h, rfl⟩ | ⟨b', off', cap', h1, h2, h3, h4, h5, h6, h7⟩
  · simp at hL
  · injection h1 with e1 e2 e3
    exact ⟨b', off', e1, h4, h5, h7⟩
def BesSmall (Xl : List Be) : Prop := Xl.length ≤ 1048576 ∧ ∀ i (h : i < Xl.length), BeSmall Xl[i]
def SzBes (Xl : List Be) (left r : Int) : Prop := -1 ≤ r ∧ r ≤ left ∧ (0 ≤ r → BesSmall Xl)

set_option maxHeartbeats 1000000 in
theorem szBe_any (x : Be) (left : Int) (w : World) (h0 : 0 ≤ left) (h1 : left ≤ 1048576) (hz : BeSize x) :
    Calls Tryz.prog 36 #[.agg #[.string x.nm, .bool x.dr], .int .i64 left] w
      fun e w' => ∃ r : Int, e = .returned (.int .i64 r) ∧ Below w.heap.size w w' ∧ -1 ≤ r ∧ r ≤ left ∧ (0 ≤ r → BeSmall x) := by
  obtain ⟨s0⟩ := hz
  unfold maxLen at s0
  go_enter Tryz.func36, Tryz.ntmps36
  go_wp2
  all_goals go_ret
  all_goals exact ⟨_, rfl, (Below.refl _ _).alloc (Nat.le_refl _) _, by omega, by omega, fun _ => rfl⟩
set_option maxHeartbeats 1000000 in
theorem toBe_any (x : Be) (w : World) :
    Calls Tryz.prog 51 #[.agg #[.string x.nm, .bool x.dr]] w fun e w' => e = .returned (.agg #[.string x.nm, .bool x.dr]) ∧ Below w.heap.size w w' := by
  go_enter Tryz.func51, Tryz.ntmps51
  go_wp2
  refine bodyPost_ret (v := .agg #[.string x.nm, .bool x.dr]) (by simp [results, Tryz.results51, go_sem]) rfl ⟨rfl, ?_⟩
  repeat (refine Below.setCell ?_ (by simp) _)
  exact (((Below.refl _ _).alloc (Nat.le_refl _) _).alloc (by simp) _).alloc (by simp; omega) _
set_option maxHeartbeats 1000000 in
theorem eqBe_same (x : Be) (w : World) :
    Calls Tryz.prog 60 #[.agg #[.string x.nm, .bool x.dr], .agg #[.string x.nm, .bool x.dr]] w fun e w' => e = .returned (.bool true) ∧ Below w.heap.size w w' := by
  go_enter Tryz.func60, Tryz.ntmps60
  go_wp2
  go_ret
  exact ⟨rfl, ((Below.refl _ _).alloc (Nat.le_refl _) _).alloc (by simp) _⟩

set_option maxHeartbeats 1000000 in
theorem szBes_any (lo : Nat) (v : Value) (Xl : List Be) (left : Int) (w : World) (h0 : 0 ≤ left) (h1 : left ≤ 1048576) (hv : BesAt lo w v Xl) :
    Calls Tryz.prog 15 #[v, .int .i64 left] w fun e w' => ∃ r : Int, e = .returned (.int .i64 r) ∧ Below w.heap.size w w' ∧ SzBes Xl left r := by
  rcases hv with ⟨a, cap, rfl, rfl⟩ | ⟨b, off, cap, rfl, hne, hm, hbw, _, _, hc⟩
  · go_enter Tryz.func15, Tryz.ntmps15
    go_wp2
    go_loop [1, 5] (fun l i => ∃ r : Int, l = .int .i64 r ∧ 0 ≤ r ∧ r ≤ left ∧ i = .int .i64 0) (fun _ _ => 0)
    case atStart => exact ⟨_, rfl, by omega, by omega, rfl⟩
    case round =>
      obtain ⟨r, rfl, hr0, hr1, rfl⟩ := hrel
      go_wp2
      go_ret
      exact ⟨r, rfl, Below.refl _ _, by omega, by omega, fun _ => ⟨by simp, fun i h => by simp at h⟩⟩
  · unfold maxLen at hm
    by_cases hle : (Xl.length : Int) ≤ left
    · go_enter Tryz.func15, Tryz.ntmps15
      go_wp2
      go_loopw [1, 5] (fun l i wr => ∃ (r : Int) (k : Nat), l = .int .i64 r ∧ 0 ≤ r ∧ r ≤ left ∧ i = .int .i64 k ∧ k ≤ Xl.length ∧ Below w.heap.size w wr ∧ ∀ j (hj : j < Xl.length), j < k → BeSmall Xl[j]) (fun _ i _ => Xl.length - (intOf i).toNat)
      case atStart => exact ⟨_, 0, rfl, by omega, by omega, rfl, by omega, Below.refl _ _, fun j _ h => by omega⟩
      case round =>
        obtain ⟨r, k, rfl, hr0, hr1, rfl, hk, hb, hall⟩ := hrel
        have HA := hide hall
        clear hall
        by_cases hlt : k < Xl.length
        · obtain ⟨hs, hc⟩ := hc k hlt
          obtain ⟨c0, c1⟩ := hc.below hb hbw
          clear hc 
          go_wp2_with fail
          refine (szBe_any _  _ _ hr0 (by omega)  hs).mono ?_
          rintro e w1 ⟨r1, rfl, hb1, q0, q1, q2⟩
          have HQ2 := hide q2
          have hB : Hid (Below w.heap.size w w1) := hb.trans (hb1.mono hb.size)
          clear hb1 c0 c1 hb q2 
          by_cases hneg : r1 < 0
          · go_wp2
            go_ret
            exact ⟨-1, rfl, hB.out, by omega, by omega, fun h => by omega⟩
          · have HL : Hid (BeSmall Xl[k]) := HQ2.out (by omega)
            clear HQ2
            go_wp2
            go_roundw
            case rel => exact ⟨_, k + 1, rfl, by omega, by omega, by go_num, by omega, hB.out, fun j hj h => by
                          by_cases e : j = k
                          · subst e; exact HL.out
                          · exact HA.out j hj (by omega)⟩
            case measure => simp [intOf]; omega
        · go_wp2
          go_ret
          exact ⟨r, rfl, hb, by omega, by omega, fun _ => ⟨by omega, fun j hj => HA.out j hj (by omega)⟩⟩
    · go_enter Tryz.func15, Tryz.ntmps15
      go_wp2
      go_ret
      exact ⟨-1, rfl, Below.refl _ _, by omega, by omega, fun h => by omega⟩

set_option maxHeartbeats 1000000 in
theorem eqBes_same (lo lo' : Nat) (v v' : Value) (Xl : List Be) (w : World) (hv : BesAt lo w v Xl) (hv' : BesAt lo' w v' Xl) :
    Calls Tryz.prog 27 #[v, v'] w fun e w' => e = .returned (.bool true) ∧ Below w.heap.size w w' := by
  by_cases hL : Xl = []
  · subst hL
    obtain ⟨a, cap, rfl⟩ := hv.form
    obtain ⟨a', cap', rfl⟩ := hv'.form
    clear hv hv'
    go_enter Tryz.func27, Tryz.ntmps27
    go_wp2
    go_loop [5] (fun i => i = .int .i64 0) (fun _ => 0)
    case atStart => rfl
    case round =>
      subst hrel
      go_wp2
      go_ret
      exact ⟨rfl, Below.refl _ _⟩
  · obtain ⟨b, off, cap, rfl, hm, hbw, _, hc⟩ := hv.full hL
    obtain ⟨b', off', cap', rfl, _, hbw', _, hc'⟩ := hv'.full hL
    clear hv hv'
    unfold maxLen at hm
    go_enter Tryz.func27, Tryz.ntmps27
    go_wp2
    go_loopw [5] (fun i wr => ∃ k : Nat, i = .int .i64 k ∧ k ≤ Xl.length ∧ Below w.heap.size w wr) (fun i _ => Xl.length - (intOf i).toNat)
    case atStart => exact ⟨0, rfl, by omega, Below.refl _ _⟩
    case round =>
      obtain ⟨k, rfl, hk, hb⟩ := hrel
      by_cases hlt : k < Xl.length
      · obtain ⟨hs, hc⟩ := hc k hlt
        obtain ⟨ht, hd⟩ := hc' k hlt
        obtain ⟨c0, c1⟩ := hc.below hb hbw
        obtain ⟨d0, d1⟩ := hd.below hb hbw'
        clear hc hd   hs ht
        have HB := hide hb
        clear hb
        go_wp2
        go_region_with (go_at_call 60; refine (eqBe_same _  _  ).mono ?_; rintro e w1 ⟨rfl, hb1⟩; have hB : Hid (Below w.heap.size w w1) := (HB.out.drew).trans (hb1.mono HB.out.size); clear hb1)
        all_goals go_wp2
        all_goals go_roundw
        all_goals first
          | (case rel => exact ⟨k + 1, by go_num, by omega, hB.out⟩)
          | (case measure => simp [intOf]; omega)
      · go_wp2
        go_ret
        exact ⟨rfl, hb⟩

theorem Tryz.info80 : (Tryz.prog.info? 80).map (fun i => (i.zero, i.size, i.bytes)) = some (some (.agg #[.string ⟨#[]⟩, .bool false]), 2, 24) := by kernel_rfl
def BesFill (wr : World) (B : Nat) (Xl : List Be) (k : Nat) : Prop :=
  ∃ f, wr.rowIs B 80 (Xl.length * 2) f ∧ ∀ i (h : i < Xl.length), i < k → BeSize Xl[i] ∧ f (i * 2) = .string Xl[i].nm ∧ f (i * 2 + 1) = .bool Xl[i].dr
theorem BesFill.below {wr w1 : World} {B : Nat} {Xl : List Be} {k : Nat} (h : BesFill wr B Xl k) (hb : Below wr.heap.size wr w1) : BesFill w1 B Xl k := by
  obtain ⟨f, hr, hall⟩ := h
  refine ⟨f, hr.of_block (hb.block B hr.lt), fun i hi hik => ?_⟩
  obtain ⟨hz, h0, h1⟩ := hall i hi hik
  exact ⟨hz, h0, h1⟩
theorem BesFill.free {wr : World} {B : Nat} {Xl : List Be} {k : Nat} (h : BesFill wr B Xl k) (i : Nat) : wr.frozen? ⟨B, i, none⟩ = false := by
  obtain ⟨f, hr, _⟩ := h
  exact hr.frozen i
theorem BesFill.there {wr : World} {B : Nat} {Xl : List Be} {k : Nat} (h : BesFill wr B Xl k) (i : Nat) (hi : i < Xl.length * 2) : ∃ v, wr.cell? ⟨B, i, none⟩ = some v := by
  obtain ⟨f, hr, _⟩ := h
  exact ⟨_, hr.cell hi⟩
theorem BesFill.step {w1 : World} {B : Nat} {Xl : List Be} {k : Nat} (h : BesFill w1 B Xl k) (hk : k < Xl.length) (hz : BeSize Xl[k]) :
    BesFill ((w1.setCell ⟨B, k * 2, none⟩ (.string Xl[k].nm)).setCell ⟨B, k * 2 + 1, none⟩ (.bool Xl[k].dr)) B Xl (k + 1) := by
  obtain ⟨f, hr, hall⟩ := h
  refine ⟨_, ((hr.set _ _).set _ _), fun i hi hik => ?_⟩
  by_cases e : i = k
  · subst e
    refine ⟨hz, by simp, by simp⟩
  · obtain ⟨hz', h0, h1⟩ := hall i hi (by omega)
    refine ⟨hz', ?_, ?_⟩
    · rw [if_neg (by omega), if_neg (by omega)]; exact h0
    · rw [if_neg (by omega), if_neg (by omega)]; exact h1

theorem BesFill.done {wr : World} {B : Nat} {Xl : List Be} {k : Nat} (h : BesFill wr B Xl k) (hk : Xl.length ≤ k) (hne : Xl ≠ []) (hm : Xl.length ≤ maxLen) : BesAt B wr (.slice (some ⟨B, 0, none⟩) Xl.length Xl.length) Xl := by
  obtain ⟨f, hr, hall⟩ := h
  refine Or.inr ⟨B, 0, Xl.length, rfl, hne, hm, hr.lt, Nat.le_refl _, Nat.le_refl _, fun i hi => ?_⟩
  obtain ⟨hz, h0, h1⟩ := hall i hi (by omega)
  rw [Nat.zero_add]
  exact ⟨hz, ⟨by rw [hr.cell (by omega), h0], by rw [hr.cell (by omega), h1]⟩⟩
theorem BesFill.new (w : World) (Xl : List Be) (z : Array Value) : BesFill (w.alloc (.cells (madeCells z (Xl.length * 2)) 80)) w.heap.size Xl 0 := by
  refine ⟨fun i => (madeCells z (Xl.length * 2)).getD i default, ?_, fun i _ h => by omega⟩
  have := World.rowIs_alloc w (madeCells z (Xl.length * 2)) 80 (fun i => (madeCells z (Xl.length * 2)).getD i default) (fun i hi => by simp [Array.getD, hi])
  rwa [size_madeCells] at this

set_option maxHeartbeats 2000000 in
theorem toBes_any (lo : Nat) (v : Value) (Xl : List Be) (w : World) (hv : BesAt lo w v Xl) (hn : BesSmall Xl) :
    Calls Tryz.prog 20 #[v] w fun e w' => ∃ v', e = .returned v' ∧ Below w.heap.size w w' ∧ BesAt w.heap.size w' v' Xl := by
  obtain ⟨i0, hi, hz0, hz1, hz2⟩ := info_parts Tryz.info80
  have hn1 := hn.1
  clear hn
  by_cases hL : Xl = []
  · subst hL
    obtain ⟨a, cap, rfl⟩ := hv.form
    clear hv
    have hmk : ∀ u : World, (Instr.makeSlice 32 (.int .i64 0) (.int .i64 0)).run Tryz.prog u = .ok (.slice (some ⟨u.heap.size, 0, none⟩) 0 0) (u.alloc (.cells (madeCells (Value.cells (.agg #[.string ⟨#[]⟩, .bool false])) 0) 80)) := fun u => by
      have h := run_make (P := Tryz.prog) u 32 80 i0 _ Tryz.underlying32 hi hz0 .i64 .i64 0 0 (by omega) (by omega) (by omega) (by omega)
      simpa [hz1] using h
    go_enter Tryz.func20, Tryz.ntmps20
    go_wp2
    go_loop [4] (fun i => i = .int .i64 0) (fun _ => 0)
    case atStart => rfl
    case round =>
      subst hrel
      go_wp2
      go_ret
      exact ⟨_, rfl, (Below.refl _ _).alloc (Nat.le_refl _) _, Or.inl ⟨_, _, rfl, rfl⟩⟩
  · obtain ⟨b, off, cap, rfl, hm, hbw, _, hc⟩ := hv.full hL
    clear hv
    have HM : Hid (Xl.length ≤ maxLen) := hm
    unfold maxLen at hm
    have hmk : ∀ u : World, (Instr.makeSlice 32 (.int .i64 (Xl.length : Int)) (.int .i64 (Xl.length : Int))).run Tryz.prog u = .ok (.slice (some ⟨u.heap.size, 0, none⟩) Xl.length Xl.length) (u.alloc (.cells (madeCells (Value.cells (.agg #[.string ⟨#[]⟩, .bool false])) (Xl.length * 2)) 80)) := fun u => by
      have h := run_make (P := Tryz.prog) u 32 80 i0 _ Tryz.underlying32 hi hz0 .i64 .i64 Xl.length Xl.length (by omega) (by omega) (by rw [hz2]; omega) (by omega)
      rw [hz1] at h
      simpa using h
    clear hi hz0 hz1 hz2
    go_enter Tryz.func20, Tryz.ntmps20
    go_wp2
    clear hmk
    go_loopw [4] (fun i wr => ∃ k : Nat, i = .int .i64 k ∧ k ≤ Xl.length ∧ Below w.heap.size w wr ∧ BesFill wr w.heap.size Xl k) (fun i _ => Xl.length - (intOf i).toNat)
    case atStart => exact ⟨0, rfl, by omega, (Below.refl _ _).alloc (Nat.le_refl _) _, BesFill.new w Xl _⟩
    case round =>
      obtain ⟨k, rfl, hk, hb, hf⟩ := hrel
      by_cases hlt : k < Xl.length
      · obtain ⟨hs, hc⟩ := hc k hlt
        obtain ⟨c0, c1⟩ := hc.below hb hbw
        have hBl : w.heap.size < wr.heap.size := by
          obtain ⟨_, hr, _⟩ := hf
          exact hr.lt
        clear hc 
        go_wp2_with fail
        refine (toBe_any _  _  ).mono ?_
        rintro e w1 ⟨rfl, hb1⟩
        have hf1 := hf.below hb1
        have HST := hide (hf1.step hlt hs )
        have hB : Hid (Below w.heap.size w w1) := hb.trans (hb1.mono hb.size)
        have hfr := hf1.free
        obtain ⟨o0, ho0⟩ := hf1.there (k * 2) (by omega)
        obtain ⟨o1, ho1⟩ := hf1.there (k * 2 + 1) (by omega)
        clear hf hf1 hb1 hb c0 c1 
        go_wp2
        go_roundw
        case rel =>
          exact ⟨k + 1, by go_num, by omega, ((hB.out.setCell (Nat.le_refl _) _).setCell (Nat.le_refl _) _), HST.out⟩
        case measure => simp [intOf]; omega
      · go_wp2
        go_ret
        exact ⟨_, rfl, hb, hf.done (by omega) hL HM.out⟩
end Go.Proofs.YtpdlcccnlciecaaGreat
