import Derived.Test.YtoklnkojacdciaaG00
namespace Go.Proofs.Ytoklnkojacdciaa
open Go.RowKit Go.Deep

structure Rx where
  ix : Int
  tx : ByteArray
structure RxSize (x : Rx) : Prop where
  s0 : x.tx.size ≤ maxLen
def RxSmall (x : Rx) : Prop := x = x
structure RxCells (w : World) (b o : Nat) (x : Rx) : Prop where
  c0 : w.cell? ⟨b, o, none⟩ = some (.int .i64 x.ix)
  c1 : w.cell? ⟨b, o + 1, none⟩ = some (.string x.tx)
theorem RxCells.below {w w' : World} {b o : Nat} {x : Rx} (h : RxCells w b o x ) {m : Nat} (hb : Below m w w') (hlt : b < m) : RxCells w' b o x  := by
  have e : ∀ o, w'.cell? ⟨b, o, none⟩ = w.cell? ⟨b, o, none⟩ := fun o => hb.cell (p := ⟨b, o, none⟩) hlt
  exact ⟨by rw [e]; exact h.c0, by rw [e]; exact h.c1⟩
theorem RxCells.set {w : World} {b o : Nat} {x : Rx} (h : RxCells w b o x ) {p : Addr} (hp : b ≠ p.block) (u : Value) : RxCells (w.setCell p u) b o x  := by
  have e : ∀ o, (w.setCell p u).cell? ⟨b, o, none⟩ = w.cell? ⟨b, o, none⟩ := fun o => cell_setCell_ne _ _ _ _ hp
  exact ⟨by rw [e]; exact h.c0, by rw [e]; exact h.c1⟩
def RxsAt (lo : Nat) (w : World) (v : Value) (Xl : List Rx) : Prop :=
  (∃ (a : Option Addr) (cap : Nat), v = .slice a 0 cap ∧ Xl = []) ∨
  ∃ (b off cap : Nat), v = .slice (some ⟨b, off, none⟩) Xl.length cap ∧ Xl ≠ [] ∧ Xl.length ≤ maxLen ∧ b < w.heap.size ∧ lo ≤ b ∧ Xl.length ≤ cap ∧
    ∀ i (h : i < Xl.length), RxSize Xl[i] ∧ RxCells w b (off + i * 2) Xl[i]
theorem RxsAt.below {lo : Nat} {w w' : World} {v : Value} {Xl : List Rx} (h : RxsAt lo w v Xl) (hb : Below w.heap.size w w') : RxsAt lo w' v Xl := by
  rcases h with h | ⟨b, off, cap, h1, h2, h3, h4, h5, h6, h7⟩
  · exact Or.inl h
  · refine Or.inr ⟨b, off, cap, h1, h2, h3, Nat.lt_of_lt_of_le h4 hb.size, h5, h6, fun i hi => ?_⟩
    obtain ⟨hs, hc⟩ := h7 i hi
    exact ⟨hs, hc.below hb h4⟩
theorem RxsAt.mono {lo lo' : Nat} {w : World} {v : Value} {Xl : List Rx} (h : RxsAt lo w v Xl) (hl : lo' ≤ lo) : RxsAt lo' w v Xl := by
  rcases h with h | ⟨b, off, cap, h1, h2, h3, h4, h5, h6, h7⟩
  · exact Or.inl h
  · refine Or.inr ⟨b, off, cap, h1, h2, h3, h4, Nat.le_trans hl h5, h6, fun i hi => ?_⟩
    obtain ⟨hs, hc⟩ := h7 i hi
    exact ⟨hs, hc⟩
theorem RxsAt.set {lo : Nat} {w : World} {v : Value} {Xl : List Rx} (h : RxsAt lo w v Xl) {p : Addr} (hp : p.block < lo) (u : Value) : RxsAt lo (w.setCell p u) v Xl := by
  rcases h with h | ⟨b, off, cap, h1, h2, h3, h4, h5, h6, h7⟩
  · exact Or.inl h
  · refine Or.inr ⟨b, off, cap, h1, h2, h3, by simpa [World.setCell] using h4, h5, h6, fun i hi => ?_⟩
    obtain ⟨hs, hc⟩ := h7 i hi
    exact ⟨hs, hc.set (by omega) u⟩
theorem RxsAt.form {lo : Nat} {w : World} {v : Value} {Xl : List Rx} (h : RxsAt lo w v Xl) : ∃ a cap, v = .slice a Xl.length cap := by
  rcases h with ⟨a, cap, h, rfl⟩ | ⟨b, off, cap, h, _⟩
  · exact ⟨a, cap, h⟩
  · exact ⟨_, cap, h⟩
theorem RxsAt.max {lo : Nat} {w : World} {v : Value} {Xl : List Rx} (h : RxsAt lo w v Xl) : Xl.length ≤ maxLen := by
  rcases h with ⟨a, cap, h, rfl⟩ | ⟨b, off, cap, h, _, h3, _⟩
  · exact Nat.zero_le _
  · exact h3
theorem RxsAt.full {lo : Nat} {w : World} {v : Value} {Xl : List Rx} (h : RxsAt lo w v Xl) (hne : Xl ≠ []) : ∃ (b off cap : Nat), v = .slice (some ⟨b, off, none⟩) Xl.length cap ∧ Xl.length ≤ maxLen ∧ b < w.heap.size ∧ Xl.length ≤ cap ∧
    ∀ i (h : i < Xl.length), RxSize Xl[i] ∧ RxCells w b (off + i * 2) Xl[i] := by
  rcases h with ⟨_, _, _, h⟩ | ⟨b, off, cap, h1, _, h3, h4, _, h6, h7⟩
  · exact absurd h hne
  · exact ⟨b, off, cap, h1, h3, h4, h6, h7⟩
theorem RxsAt.full' {lo : Nat} {w : World} {a : Option Addr} {n cap : Nat} {Xl : List Rx} (h : RxsAt lo w (.slice a n cap) Xl) (hL : 0 < Xl.length) :
    ∃ b off, a = some ⟨b, off, none⟩ ∧ b < w.heap.size ∧ lo ≤ b ∧ ∀ i (h : i < Xl.length), RxSize Xl[i] ∧ RxCells w b (off + i * 2) Xl[i] := by
  rcases h with ⟨a', cap', h, rfl⟩ | ⟨b', off', cap', h1, h2, h3, h4, h5, h6, h7⟩
  · simp at hL
  · injection h1 with e1 e2 e3
    exact ⟨b', off', e1, h4, h5, h7⟩
def RxsSmall (Xl : List Rx) : Prop := Xl.length ≤ 1048576 ∧ ∀ i (h : i < Xl.length), RxSmall Xl[i]
def SzRxs (Xl : List Rx) (left r : Int) : Prop := -1 ≤ r ∧ r ≤ left ∧ (0 ≤ r → RxsSmall Xl)

set_option maxHeartbeats 1000000 in
theorem szRx_any (x : Rx) (left : Int) (w : World) (h0 : 0 ≤ left) (h1 : left ≤ 1048576) (hz : RxSize x) :
    Calls Try.prog 66 #[.agg #[.int .i64 x.ix, .string x.tx], .int .i64 left] w
      fun e w' => ∃ r : Int, e = .returned (.int .i64 r) ∧ Below w.heap.size w w' ∧ -1 ≤ r ∧ r ≤ left ∧ (0 ≤ r → RxSmall x) := by
  obtain ⟨s0⟩ := hz
  unfold maxLen at s0
  go_enter Try.func66, Try.ntmps66
  go_wp2
  all_goals go_ret
  all_goals exact ⟨_, rfl, (Below.refl _ _).alloc (Nat.le_refl _) _, by omega, by omega, fun _ => rfl⟩
set_option maxHeartbeats 1000000 in
theorem toRx_any (x : Rx) (w : World) :
    Calls Try.prog 75 #[.agg #[.int .i64 x.ix, .string x.tx]] w fun e w' => e = .returned (.agg #[.int .i64 x.ix, .string x.tx]) ∧ Below w.heap.size w w' := by
  go_enter Try.func75, Try.ntmps75
  go_wp2
  refine bodyPost_ret (v := .agg #[.int .i64 x.ix, .string x.tx]) (by simp [results, Try.results75, go_sem]) rfl ⟨rfl, ?_⟩
  repeat (refine Below.setCell ?_ (by simp) _)
  exact (((Below.refl _ _).alloc (Nat.le_refl _) _).alloc (by simp) _).alloc (by simp; omega) _
set_option maxHeartbeats 1000000 in
theorem eqRx_same (x : Rx) (w : World) :
    Calls Try.prog 54 #[.agg #[.int .i64 x.ix, .string x.tx], .agg #[.int .i64 x.ix, .string x.tx]] w fun e w' => e = .returned (.bool true) ∧ Below w.heap.size w w' := by
  go_enter Try.func54, Try.ntmps54
  go_wp2
  go_ret
  exact ⟨rfl, ((Below.refl _ _).alloc (Nat.le_refl _) _).alloc (by simp) _⟩

set_option maxHeartbeats 1000000 in
theorem szRxs_any (lo : Nat) (v : Value) (Xl : List Rx) (left : Int) (w : World) (h0 : 0 ≤ left) (h1 : left ≤ 1048576) (hv : RxsAt lo w v Xl) :
    Calls Try.prog 35 #[v, .int .i64 left] w fun e w' => ∃ r : Int, e = .returned (.int .i64 r) ∧ Below w.heap.size w w' ∧ SzRxs Xl left r := by
  rcases hv with ⟨a, cap, rfl, rfl⟩ | ⟨b, off, cap, rfl, hne, hm, hbw, _, _, hc⟩
  · go_enter Try.func35, Try.ntmps35
    go_wp2
    go_loop [1, 5] (fun l i => ∃ r : Int, l = .int .i64 r ∧ 0 ≤ r ∧ r ≤ left ∧ i = .int .i64 0) (fun _ _ => 0)
    case atStart => exact ⟨_, rfl, by omega, by omega, rfl⟩
    case round =>
      obtain ⟨r, rfl, hr0, hr1, rfl⟩ := hrel
      go_wp2
      go_ret
      exact ⟨r, rfl, Below.refl _ _, by omega, by omega, fun _ => ⟨by simp, fun i h => by simp at h⟩⟩
  · unfold maxLen at hm
    by_cases hle : (Xl.length : Int) ≤ left
    · go_enter Try.func35, Try.ntmps35
      go_wp2
      go_loopw [1, 5] (fun l i wr => ∃ (r : Int) (k : Nat), l = .int .i64 r ∧ 0 ≤ r ∧ r ≤ left ∧ i = .int .i64 k ∧ k ≤ Xl.length ∧ Below w.heap.size w wr ∧ ∀ j (hj : j < Xl.length), j < k → RxSmall Xl[j]) (fun _ i _ => Xl.length - (intOf i).toNat)
      case atStart => exact ⟨_, 0, rfl, by omega, by omega, rfl, by omega, Below.refl _ _, fun j _ h => by omega⟩
      case round =>
        obtain ⟨r, k, rfl, hr0, hr1, rfl, hk, hb, hall⟩ := hrel
        have HA := hide hall
        clear hall
        by_cases hlt : k < Xl.length
        · obtain ⟨hs, hc⟩ := hc k hlt
          obtain ⟨c0, c1⟩ := hc.below hb hbw
          clear hc 
          go_wp2_with fail
          refine (szRx_any _  _ _ hr0 (by omega)  hs).mono ?_
          rintro e w1 ⟨r1, rfl, hb1, q0, q1, q2⟩
          have HQ2 := hide q2
          have hB : Hid (Below w.heap.size w w1) := hb.trans (hb1.mono hb.size)
          clear hb1 c0 c1 hb q2 
          by_cases hneg : r1 < 0
          · go_wp2
            go_ret
            exact ⟨-1, rfl, hB.out, by omega, by omega, fun h => by omega⟩
          · have HL : Hid (RxSmall Xl[k]) := HQ2.out (by omega)
            clear HQ2
            go_wp2
            go_roundw
            case rel => exact ⟨_, k + 1, rfl, by omega, by omega, by go_num, by omega, hB.out, fun j hj h => by
                          by_cases e : j = k
                          · subst e; exact HL.out
                          · exact HA.out j hj (by omega)⟩
            case measure => simp [intOf]; omega
        · go_wp2
          go_ret
          exact ⟨r, rfl, hb, by omega, by omega, fun _ => ⟨by omega, fun j hj => HA.out j hj (by omega)⟩⟩
    · go_enter Try.func35, Try.ntmps35
      go_wp2
      go_ret
      exact ⟨-1, rfl, Below.refl _ _, by omega, by omega, fun h => by omega⟩

set_option maxHeartbeats 1000000 in
theorem eqRxs_same (lo lo' : Nat) (v v' : Value) (Xl : List Rx) (w : World) (hv : RxsAt lo w v Xl) (hv' : RxsAt lo' w v' Xl) :
    Calls Try.prog 26 #[v, v'] w fun e w' => e = .returned (.bool true) ∧ Below w.heap.size w w' := by
  by_cases hL : Xl = []
  · subst hL
    obtain ⟨a, cap, rfl⟩ := hv.form
    obtain ⟨a', cap', rfl⟩ := hv'.form
    clear hv hv'
    go_enter Try.func26, Try.ntmps26
    go_wp2
    go_loop [5] (fun i => i = .int .i64 0) (fun _ => 0)
    case atStart => rfl
    case round =>
      subst hrel
      go_wp2
      go_ret
      exact ⟨rfl, Below.refl _ _⟩
  · obtain ⟨b, off, cap, rfl, hm, hbw, _, hc⟩ := hv.full hL
    obtain ⟨b', off', cap', rfl, _, hbw', _, hc'⟩ := hv'.full hL
    clear hv hv'
    unfold maxLen at hm
    go_enter Try.func26, Try.ntmps26
    go_wp2
    go_loopw [5] (fun i wr => ∃ k : Nat, i = .int .i64 k ∧ k ≤ Xl.length ∧ Below w.heap.size w wr) (fun i _ => Xl.length - (intOf i).toNat)
    case atStart => exact ⟨0, rfl, by omega, Below.refl _ _⟩
    case round =>
      obtain ⟨k, rfl, hk, hb⟩ := hrel
      by_cases hlt : k < Xl.length
      · obtain ⟨hs, hc⟩ := hc k hlt
        obtain ⟨ht, hd⟩ := hc' k hlt
        obtain ⟨c0, c1⟩ := hc.below hb hbw
        obtain ⟨d0, d1⟩ := hd.below hb hbw'
        clear hc hd   hs ht
        have HB := hide hb
        clear hb
        go_wp2
        go_region_with (go_at_call 54; refine (eqRx_same _  _  ).mono ?_; rintro e w1 ⟨rfl, hb1⟩; have hB : Hid (Below w.heap.size w w1) := (HB.out.drew).trans (hb1.mono HB.out.size); clear hb1)
        all_goals go_wp2
        all_goals go_roundw
        all_goals first
          | (case rel => exact ⟨k + 1, by go_num, by omega, hB.out⟩)
          | (case measure => simp [intOf]; omega)
      · go_wp2
        go_ret
        exact ⟨rfl, hb⟩

theorem Try.info67 : (Try.prog.info? 67).map (fun i => (i.zero, i.size, i.bytes)) = some (some (.agg #[.int .i64 0, .string ⟨#[]⟩]), 2, 24) := by kernel_rfl
def RxsFill (wr : World) (B : Nat) (Xl : List Rx) (k : Nat) : Prop :=
  ∃ f, wr.rowIs B 67 (Xl.length * 2) f ∧ ∀ i (h : i < Xl.length), i < k → RxSize Xl[i] ∧ f (i * 2) = .int .i64 Xl[i].ix ∧ f (i * 2 + 1) = .string Xl[i].tx
theorem RxsFill.below {wr w1 : World} {B : Nat} {Xl : List Rx} {k : Nat} (h : RxsFill wr B Xl k) (hb : Below wr.heap.size wr w1) : RxsFill w1 B Xl k := by
  obtain ⟨f, hr, hall⟩ := h
  refine ⟨f, hr.of_block (hb.block B hr.lt), fun i hi hik => ?_⟩
  obtain ⟨hz, h0, h1⟩ := hall i hi hik
  exact ⟨hz, h0, h1⟩
theorem RxsFill.free {wr : World} {B : Nat} {Xl : List Rx} {k : Nat} (h : RxsFill wr B Xl k) (i : Nat) : wr.frozen? ⟨B, i, none⟩ = false := by
  obtain ⟨f, hr, _⟩ := h
  exact hr.frozen i
theorem RxsFill.there {wr : World} {B : Nat} {Xl : List Rx} {k : Nat} (h : RxsFill wr B Xl k) (i : Nat) (hi : i < Xl.length * 2) : ∃ v, wr.cell? ⟨B, i, none⟩ = some v := by
  obtain ⟨f, hr, _⟩ := h
  exact ⟨_, hr.cell hi⟩
theorem RxsFill.step {w1 : World} {B : Nat} {Xl : List Rx} {k : Nat} (h : RxsFill w1 B Xl k) (hk : k < Xl.length) (hz : RxSize Xl[k]) :
    RxsFill ((w1.setCell ⟨B, k * 2, none⟩ (.int .i64 Xl[k].ix)).setCell ⟨B, k * 2 + 1, none⟩ (.string Xl[k].tx)) B Xl (k + 1) := by
  obtain ⟨f, hr, hall⟩ := h
  refine ⟨_, ((hr.set _ _).set _ _), fun i hi hik => ?_⟩
  by_cases e : i = k
  · subst e
    refine ⟨hz, by simp, by simp⟩
  · obtain ⟨hz', h0, h1⟩ := hall i hi (by omega)
    refine ⟨hz', ?_, ?_⟩
    · rw [if_neg (by omega), if_neg (by omega)]; exact h0
    · rw [if_neg (by omega), if_neg (by omega)]; exact h1

theorem RxsFill.done {wr : World} {B : Nat} {Xl : List Rx} {k : Nat} (h : RxsFill wr B Xl k) (hk : Xl.length ≤ k) (hne : Xl ≠ []) (hm : Xl.length ≤ maxLen) : RxsAt B wr (.slice (some ⟨B, 0, none⟩) Xl.length Xl.length) Xl := by
  obtain ⟨f, hr, hall⟩ := h
  refine Or.inr ⟨B, 0, Xl.length, rfl, hne, hm, hr.lt, Nat.le_refl _, Nat.le_refl _, fun i hi => ?_⟩
  obtain ⟨hz, h0, h1⟩ := hall i hi (by omega)
  rw [Nat.zero_add]
  exact ⟨hz, ⟨by rw [hr.cell (by omega), h0], by rw [hr.cell (by omega), h1]⟩⟩
theorem RxsFill.new (w : World) (Xl : List Rx) (z : Array Value) : RxsFill (w.alloc (.cells (madeCells z (Xl.length * 2)) 67)) w.heap.size Xl 0 := by
  refine ⟨fun i => (madeCells z (Xl.length * 2)).getD i default, ?_, fun i _ h => by omega⟩
  have := World.rowIs_alloc w (madeCells z (Xl.length * 2)) 67 (fun i => (madeCells z (Xl.length * 2)).getD i default) (fun i hi => by simp [Array.getD, hi])
  rwa [size_madeCells] at this

set_option maxHeartbeats 2000000 in
theorem toRxs_any (lo : Nat) (v : Value) (Xl : List Rx) (w : World) (hv : RxsAt lo w v Xl) (hn : RxsSmall Xl) :
    Calls Try.prog 40 #[v] w fun e w' => ∃ v', e = .returned v' ∧ Below w.heap.size w w' ∧ RxsAt w.heap.size w' v' Xl := by
  obtain ⟨i0, hi, hz0, hz1, hz2⟩ := info_parts Try.info67
  have hn1 := hn.1
  clear hn
  by_cases hL : Xl = []
  · subst hL
    obtain ⟨a, cap, rfl⟩ := hv.form
    clear hv
    have hmk : ∀ u : World, (Instr.makeSlice 24 (.int .i64 0) (.int .i64 0)).run Try.prog u = .ok (.slice (some ⟨u.heap.size, 0, none⟩) 0 0) (u.alloc (.cells (madeCells (Value.cells (.agg #[.int .i64 0, .string ⟨#[]⟩])) 0) 67)) := fun u => by
      have h := run_make (P := Try.prog) u 24 67 i0 _ Try.underlying24 hi hz0 .i64 .i64 0 0 (by omega) (by omega) (by omega) (by omega)
      simpa [hz1] using h
    go_enter Try.func40, Try.ntmps40
    go_wp2
    go_loop [4] (fun i => i = .int .i64 0) (fun _ => 0)
    case atStart => rfl
    case round =>
      subst hrel
      go_wp2
      go_ret
      exact ⟨_, rfl, (Below.refl _ _).alloc (Nat.le_refl _) _, Or.inl ⟨_, _, rfl, rfl⟩⟩
  · obtain ⟨b, off, cap, rfl, hm, hbw, _, hc⟩ := hv.full hL
    clear hv
    have HM : Hid (Xl.length ≤ maxLen) := hm
    unfold maxLen at hm
    have hmk : ∀ u : World, (Instr.makeSlice 24 (.int .i64 (Xl.length : Int)) (.int .i64 (Xl.length : Int))).run Try.prog u = .ok (.slice (some ⟨u.heap.size, 0, none⟩) Xl.length Xl.length) (u.alloc (.cells (madeCells (Value.cells (.agg #[.int .i64 0, .string ⟨#[]⟩])) (Xl.length * 2)) 67)) := fun u => by
      have h := run_make (P := Try.prog) u 24 67 i0 _ Try.underlying24 hi hz0 .i64 .i64 Xl.length Xl.length (by omega) (by omega) (by rw [hz2]; omega) (by omega)
      rw [hz1] at h
      simpa using h
    clear hi hz0 hz1 hz2
    go_enter Try.func40, Try.ntmps40
    go_wp2
    clear hmk
    go_loopw [4] (fun i wr => ∃ k : Nat, i = .int .i64 k ∧ k ≤ Xl.length ∧ Below w.heap.size w wr ∧ RxsFill wr w.heap.size Xl k) (fun i _ => Xl.length - (intOf i).toNat)
    case atStart => exact ⟨0, rfl, by omega, (Below.refl _ _).alloc (Nat.le_refl _) _, RxsFill.new w Xl _⟩
    case round =>
      obtain ⟨k, rfl, hk, hb, hf⟩ := hrel
      by_cases hlt : k < Xl.length
      · obtain ⟨hs, hc⟩ := hc k hlt
        obtain ⟨c0, c1⟩ := hc.below hb hbw
        have hBl : w.heap.size < wr.heap.size := by
          obtain ⟨_, hr, _⟩ := hf
          exact hr.lt
        clear hc 
        go_wp2_with fail
        refine (toRx_any _  _  ).mono ?_
        rintro e w1 ⟨rfl, hb1⟩
        have hf1 := hf.below hb1
        have HST := hide (hf1.step hlt hs )
        have hB : Hid (Below w.heap.size w w1) := hb.trans (hb1.mono hb.size)
        have hfr := hf1.free
        obtain ⟨o0, ho0⟩ := hf1.there (k * 2) (by omega)
        obtain ⟨o1, ho1⟩ := hf1.there (k * 2 + 1) (by omega)
        clear hf hf1 hb1 hb c0 c1 
        go_wp2
        go_roundw
        case rel =>
          exact ⟨k + 1, by go_num, by omega, ((hB.out.setCell (Nat.le_refl _) _).setCell (Nat.le_refl _) _), HST.out⟩
        case measure => simp [intOf]; omega
      · go_wp2
        go_ret
        exact ⟨_, rfl, hb, hf.done (by omega) hL HM.out⟩
end Go.Proofs.Ytoklnkojacdciaa
