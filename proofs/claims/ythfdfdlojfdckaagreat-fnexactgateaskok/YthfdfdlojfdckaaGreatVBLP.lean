import Derived.Test.YthfdfdlojfdckaaGreatVTA
import Derived.Test.YthfdfdlojfdckaaGreatVA1
namespace Go.Proofs.YthfdfdlojfdckaaGreat
open Go.RowKit Go.Deep

structure Le where
  tm : ByteArray
  re : ByteArray
  mo : Int
  fr : Int
structure LeSize (x : Le) : Prop where
  s0 : x.tm.size ≤ maxLen
  s1 : x.re.size ≤ maxLen
def LeSmall (x : Le) : Prop := x = x
structure LeCells (w : World) (b o : Nat) (x : Le) : Prop where
  c0 : w.cell? ⟨b, o, none⟩ = some (.string x.tm)
  c1 : w.cell? ⟨b, o + 1, none⟩ = some (.string x.re)
  c2 : w.cell? ⟨b, o + 2, none⟩ = some (.int .i64 x.mo)
  c3 : w.cell? ⟨b, o + 3, none⟩ = some (.int .i64 x.fr)
theorem LeCells.below {w w' : World} {b o : Nat} {x : Le} (h : LeCells w b o x ) {m : Nat} (hb : Below m w w') (hlt : b < m) : LeCells w' b o x  := by
  have e : ∀ o, w'.cell? ⟨b, o, none⟩ = w.cell? ⟨b, o, none⟩ := fun o => hb.cell (p := ⟨b, o, none⟩) hlt
  exact ⟨by rw [e]; exact h.c0, by rw [e]; exact h.c1, by rw [e]; exact h.c2, by rw [e]; exact h.c3⟩
theorem LeCells.set {w : World} {b o : Nat} {x : Le} (h : LeCells w b o x ) {p : Addr} (hp : b ≠ p.block) (u : Value) : LeCells (w.setCell p u) b o x  := by
  have e : ∀ o, (w.setCell p u).cell? ⟨b, o, none⟩ = w.cell? ⟨b, o, none⟩ := fun o => cell_setCell_ne _ _ _ _ hp
  exact ⟨by rw [e]; exact h.c0, by rw [e]; exact h.c1, by rw [e]; exact h.c2, by rw [e]; exact h.c3⟩
def LesAt (lo : Nat) (w : World) (v : Value) (Xl : List Le) : Prop :=
  (∃ (a : Option Addr) (cap : Nat), v = .slice a 0 cap ∧ Xl = []) ∨
  ∃ (b off cap : Nat), v = .slice (some ⟨b, off, none⟩) Xl.length cap ∧ Xl ≠ [] ∧ Xl.length ≤ maxLen ∧ b < w.heap.size ∧ lo ≤ b ∧ Xl.length ≤ cap ∧
    ∀ i (h : i < Xl.length), LeSize Xl[i] ∧ LeCells w b (off + i * 4) Xl[i]
theorem LesAt.below {lo : Nat} {w w' : World} {v : Value} {Xl : List Le} (h : LesAt lo w v Xl) (hb : Below w.heap.size w w') : LesAt lo w' v Xl := by
  rcases h with h | ⟨b, off, cap, h1, h2, h3, h4, h5, h6, h7⟩
  · exact Or.inl h
  · refine Or.inr ⟨b, off, cap, h1, h2, h3, Nat.lt_of_lt_of_le h4 hb.size, h5, h6, fun i hi => ?_⟩
    obtain ⟨hs, hc⟩ := h7 i hi
    exact ⟨hs, hc.below hb h4⟩
theorem LesAt.mono {lo lo' : Nat} {w : World} {v : Value} {Xl : List Le} (h : LesAt lo w v Xl) (hl : lo' ≤ lo) : LesAt lo' w v Xl := by
  rcases h with h | ⟨b, off, cap, h1, h2, h3, h4, h5, h6, h7⟩
  · exact Or.inl h
  · refine Or.inr ⟨b, off, cap, h1, h2, h3, h4, Nat.le_trans hl h5, h6, fun i hi => ?_⟩
    obtain ⟨hs, hc⟩ := h7 i hi
    exact ⟨hs, hc⟩
theorem LesAt.set {lo : Nat} {w : World} {v : Value} {Xl : List Le} (h : LesAt lo w v Xl) {p : Addr} (hp : p.block < lo) (u : Value) : LesAt lo (w.setCell p u) v Xl := by
  rcases h with h | ⟨b, off, cap, h1, h2, h3, h4, h5, h6, h7⟩
  · exact Or.inl h
  · refine Or.inr ⟨b, off, cap, h1, h2, h3, by simpa [World.setCell] using h4, h5, h6, fun i hi => ?_⟩
    obtain ⟨hs, hc⟩ := h7 i hi
    exact ⟨hs, hc.set (by omega) u⟩
theorem LesAt.form {lo : Nat} {w : World} {v : Value} {Xl : List Le} (h : LesAt lo w v Xl) : ∃ a cap, v = .slice a Xl.length cap := by
  rcases h with ⟨a, cap, h, rfl⟩ | ⟨b, off, cap, h, _⟩
  · exact ⟨a, cap, h⟩
  · exact ⟨_, cap, h⟩
theorem LesAt.max {lo : Nat} {w : World} {v : Value} {Xl : List Le} (h : LesAt lo w v Xl) : Xl.length ≤ maxLen := by
  rcases h with ⟨a, cap, h, rfl⟩ | ⟨b, off, cap, h, _, h3, _⟩
  · exact Nat.zero_le _
  · exact h3
theorem LesAt.full {lo : Nat} {w : World} {v : Value} {Xl : List Le} (h : LesAt lo w v Xl) (hne : Xl ≠ []) : ∃ (b off cap : Nat), v = .slice (some ⟨b, off, none⟩) Xl.length cap ∧ Xl.length ≤ maxLen ∧ b < w.heap.size ∧ Xl.length ≤ cap ∧
    ∀ i (h : i < Xl.length), LeSize Xl[i] ∧ LeCells w b (off + i * 4) Xl[i] := by
  rcases h with ⟨_, _, _, h⟩ | ⟨b, off, cap, h1, _, h3, h4, _, h6, h7⟩
  · exact absurd h hne
  · exact ⟨b, off, cap, h1, h3, h4, h6, h7⟩
theorem LesAt.full' {lo : Nat} {w : World} {a : Option Addr} {n cap : Nat} {Xl : List Le} (h : LesAt lo w (.slice a n cap) Xl) (hL : 0 < Xl.length) :
    ∃ b off, a = some ⟨b, off, none⟩ ∧ b < w.heap.size ∧ lo ≤ b ∧ ∀ i (h : i < Xl.length), LeSize Xl[i] ∧ LeCells w b (off + i * 4) Xl[i] := by
  rcases h with ⟨a', cap', h, rfl⟩ | ⟨b', off', cap', h1, h2, h3, h4, h5, h6, h7⟩
  · simp at hL
  · injection h1 with e1 e2 e3
    exact ⟨b', off', e1, h4, h5, h7⟩
def LesSmall (Xl : List Le) : Prop := Xl.length ≤ 1048576 ∧ ∀ i (h : i < Xl.length), LeSmall Xl[i]
def SzLes (Xl : List Le) (left r : Int) : Prop := -1 ≤ r ∧ r ≤ left ∧ (0 ≤ r → LesSmall Xl)

set_option maxHeartbeats 1000000 in
theorem szLe_any (x : Le) (left : Int) (w : World) (h0 : 0 ≤ left) (h1 : left ≤ 1048576) (hz : LeSize x) :
    Calls Tryz.prog 60 #[.agg #[.string x.tm, .string x.re, .int .i64 x.mo, .int .i64 x.fr], .int .i64 left] w
      fun e w' => ∃ r : Int, e = .returned (.int .i64 r) ∧ Below w.heap.size w w' ∧ -1 ≤ r ∧ r ≤ left ∧ (0 ≤ r → LeSmall x) := by
  obtain ⟨s0, s1⟩ := hz
  unfold maxLen at s0 s1
  go_enter Tryz.func60, Tryz.ntmps60
  go_wp2
  all_goals go_ret
  all_goals exact ⟨_, rfl, (Below.refl _ _).alloc (Nat.le_refl _) _, by omega, by omega, fun _ => rfl⟩
set_option maxHeartbeats 1000000 in
theorem toLe_any (x : Le) (w : World) :
    Calls Tryz.prog 73 #[.agg #[.string x.tm, .string x.re, .int .i64 x.mo, .int .i64 x.fr]] w fun e w' => e = .returned (.agg #[.string x.tm, .string x.re, .int .i64 x.mo, .int .i64 x.fr]) ∧ Below w.heap.size w w' := by
  go_enter Tryz.func73, Tryz.ntmps73
  go_wp2
  refine bodyPost_ret (v := .agg #[.string x.tm, .string x.re, .int .i64 x.mo, .int .i64 x.fr]) (by simp [results, Tryz.results73, go_sem]) rfl ⟨rfl, ?_⟩
  repeat (refine Below.setCell ?_ (by simp) _)
  exact (((Below.refl _ _).alloc (Nat.le_refl _) _).alloc (by simp) _).alloc (by simp; omega) _
set_option maxHeartbeats 1000000 in
theorem eqLe_same (x : Le) (w : World) :
    Calls Tryz.prog 83 #[.agg #[.string x.tm, .string x.re, .int .i64 x.mo, .int .i64 x.fr], .agg #[.string x.tm, .string x.re, .int .i64 x.mo, .int .i64 x.fr]] w fun e w' => e = .returned (.bool true) ∧ Below w.heap.size w w' := by
  go_enter Tryz.func83, Tryz.ntmps83
  go_wp2
  go_ret
  exact ⟨rfl, ((Below.refl _ _).alloc (Nat.le_refl _) _).alloc (by simp) _⟩

set_option maxHeartbeats 1000000 in
theorem szLes_any (lo : Nat) (v : Value) (Xl : List Le) (left : Int) (w : World) (h0 : 0 ≤ left) (h1 : left ≤ 1048576) (hv : LesAt lo w v Xl) :
    Calls Tryz.prog 25 #[v, .int .i64 left] w fun e w' => ∃ r : Int, e = .returned (.int .i64 r) ∧ Below w.heap.size w w' ∧ SzLes Xl left r := by
  rcases hv with ⟨a, cap, rfl, rfl⟩ | ⟨b, off, cap, rfl, hne, hm, hbw, _, _, hc⟩
  · go_enter Tryz.func25, Tryz.ntmps25
    go_wp2
    go_loop [1, 5] (fun l i => ∃ r : Int, l = .int .i64 r ∧ 0 ≤ r ∧ r ≤ left ∧ i = .int .i64 0) (fun _ _ => 0)
    case atStart => exact ⟨_, rfl, by omega, by omega, rfl⟩
    case round =>
      obtain ⟨r, rfl, hr0, hr1, rfl⟩ := hrel
      go_wp2
      go_ret
      exact ⟨r, rfl, Below.refl _ _, by omega, by omega, fun _ => ⟨by simp, fun i h => by simp at h⟩⟩
  · unfold maxLen at hm
    by_cases hle : (Xl.length : Int) ≤ left
    · go_enter Tryz.func25, Tryz.ntmps25
      go_wp2
      go_loopw [1, 5] (fun l i wr => ∃ (r : Int) (k : Nat), l = .int .i64 r ∧ 0 ≤ r ∧ r ≤ left ∧ i = .int .i64 k ∧ k ≤ Xl.length ∧ Below w.heap.size w wr ∧ ∀ j (hj : j < Xl.length), j < k → LeSmall Xl[j]) (fun _ i _ => Xl.length - (intOf i).toNat)
      case atStart => exact ⟨_, 0, rfl, by omega, by omega, rfl, by omega, Below.refl _ _, fun j _ h => by omega⟩
      case round =>
        obtain ⟨r, k, rfl, hr0, hr1, rfl, hk, hb, hall⟩ := hrel
        have HA := hide hall
        clear hall
        by_cases hlt : k < Xl.length
        · obtain ⟨hs, hc⟩ := hc k hlt
          obtain ⟨c0, c1, c2, c3⟩ := hc.below hb hbw
          clear hc 
          go_wp2_with fail
          refine (szLe_any _  _ _ hr0 (by omega)  hs).mono ?_
          rintro e w1 ⟨r1, rfl, hb1, q0, q1, q2⟩
          have HQ2 := hide q2
          have hB : Hid (Below w.heap.size w w1) := hb.trans (hb1.mono hb.size)
          clear hb1 c0 c1 c2 c3 hb q2 
          by_cases hneg : r1 < 0
          · go_wp2
            go_ret
            exact ⟨-1, rfl, hB.out, by omega, by omega, fun h => by omega⟩
          · have HL : Hid (LeSmall Xl[k]) := HQ2.out (by omega)
            clear HQ2
            go_wp2
            go_roundw
            case rel => exact ⟨_, k + 1, rfl, by omega, by omega, by go_num, by omega, hB.out, fun j hj h => by
                          by_cases e : j = k
                          · subst e; exact HL.out
                          · exact HA.out j hj (by omega)⟩
            case measure => simp [intOf]; omega
        · go_wp2
          go_ret
          exact ⟨r, rfl, hb, by omega, by omega, fun _ => ⟨by omega, fun j hj => HA.out j hj (by omega)⟩⟩
    · go_enter Tryz.func25, Tryz.ntmps25
      go_wp2
      go_ret
      exact ⟨-1, rfl, Below.refl _ _, by omega, by omega, fun h => by omega⟩

set_option maxHeartbeats 1000000 in
theorem eqLes_same (lo lo' : Nat) (v v' : Value) (Xl : List Le) (w : World) (hv : LesAt lo w v Xl) (hv' : LesAt lo' w v' Xl) :
    Calls Tryz.prog 43 #[v, v'] w fun e w' => e = .returned (.bool true) ∧ Below w.heap.size w w' := by
  by_cases hL : Xl = []
  · subst hL
    obtain ⟨a, cap, rfl⟩ := hv.form
    obtain ⟨a', cap', rfl⟩ := hv'.form
    clear hv hv'
    go_enter Tryz.func43, Tryz.ntmps43
    go_wp2
    go_loop [5] (fun i => i = .int .i64 0) (fun _ => 0)
    case atStart => rfl
    case round =>
      subst hrel
      go_wp2
      go_ret
      exact ⟨rfl, Below.refl _ _⟩
  · obtain ⟨b, off, cap, rfl, hm, hbw, _, hc⟩ := hv.full hL
    obtain ⟨b', off', cap', rfl, _, hbw', _, hc'⟩ := hv'.full hL
    clear hv hv'
    unfold maxLen at hm
    go_enter Tryz.func43, Tryz.ntmps43
    go_wp2
    go_loopw [5] (fun i wr => ∃ k : Nat, i = .int .i64 k ∧ k ≤ Xl.length ∧ Below w.heap.size w wr) (fun i _ => Xl.length - (intOf i).toNat)
    case atStart => exact ⟨0, rfl, by omega, Below.refl _ _⟩
    case round =>
      obtain ⟨k, rfl, hk, hb⟩ := hrel
      by_cases hlt : k < Xl.length
      · obtain ⟨hs, hc⟩ := hc k hlt
        obtain ⟨ht, hd⟩ := hc' k hlt
        obtain ⟨c0, c1, c2, c3⟩ := hc.below hb hbw
        obtain ⟨d0, d1, d2, d3⟩ := hd.below hb hbw'
        clear hc hd   hs ht
        have HB := hide hb
        clear hb
        go_wp2
        go_region_with (go_at_call 83; refine (eqLe_same _  _  ).mono ?_; rintro e w1 ⟨rfl, hb1⟩; have hB : Hid (Below w.heap.size w w1) := (HB.out.drew).trans (hb1.mono HB.out.size); clear hb1)
        all_goals go_wp2
        all_goals go_roundw
        all_goals first
          | (case rel => exact ⟨k + 1, by go_num, by omega, hB.out⟩)
          | (case measure => simp [intOf]; omega)
      · go_wp2
        go_ret
        exact ⟨rfl, hb⟩

theorem Tryz.info140 : (Tryz.prog.info? 140).map (fun i => (i.zero, i.size, i.bytes)) = some (some (.agg #[.string ⟨#[]⟩, .string ⟨#[]⟩, .int .i64 0, .int .i64 0]), 4, 48) := by kernel_rfl
def LesFill (wr : World) (B : Nat) (Xl : List Le) (k : Nat) : Prop :=
  ∃ f, wr.rowIs B 140 (Xl.length * 4) f ∧ ∀ i (h : i < Xl.length), i < k → LeSize Xl[i] ∧ f (i * 4) = .string Xl[i].tm ∧ f (i * 4 + 1) = .string Xl[i].re ∧ f (i * 4 + 2) = .int .i64 Xl[i].mo ∧ f (i * 4 + 3) = .int .i64 Xl[i].fr
theorem LesFill.below {wr w1 : World} {B : Nat} {Xl : List Le} {k : Nat} (h : LesFill wr B Xl k) (hb : Below wr.heap.size wr w1) : LesFill w1 B Xl k := by
  obtain ⟨f, hr, hall⟩ := h
  refine ⟨f, hr.of_block (hb.block B hr.lt), fun i hi hik => ?_⟩
  obtain ⟨hz, h0, h1, h2, h3⟩ := hall i hi hik
  exact ⟨hz, h0, h1, h2, h3⟩
theorem LesFill.free {wr : World} {B : Nat} {Xl : List Le} {k : Nat} (h : LesFill wr B Xl k) (i : Nat) : wr.frozen? ⟨B, i, none⟩ = false := by
  obtain ⟨f, hr, _⟩ := h
  exact hr.frozen i
theorem LesFill.there {wr : World} {B : Nat} {Xl : List Le} {k : Nat} (h : LesFill wr B Xl k) (i : Nat) (hi : i < Xl.length * 4) : ∃ v, wr.cell? ⟨B, i, none⟩ = some v := by
  obtain ⟨f, hr, _⟩ := h
  exact ⟨_, hr.cell hi⟩
theorem LesFill.step {w1 : World} {B : Nat} {Xl : List Le} {k : Nat} (h : LesFill w1 B Xl k) (hk : k < Xl.length) (hz : LeSize Xl[k]) :
    LesFill ((((w1.setCell ⟨B, k * 4, none⟩ (.string Xl[k].tm)).setCell ⟨B, k * 4 + 1, none⟩ (.string Xl[k].re)).setCell ⟨B, k * 4 + 2, none⟩ (.int .i64 Xl[k].mo)).setCell ⟨B, k * 4 + 3, none⟩ (.int .i64 Xl[k].fr)) B Xl (k + 1) := by
  obtain ⟨f, hr, hall⟩ := h
  refine ⟨_, ((((hr.set _ _).set _ _).set _ _).set _ _), fun i hi hik => ?_⟩
  by_cases e : i = k
  · subst e
    refine ⟨hz, by simp, by simp, by simp, by simp⟩
  · obtain ⟨hz', h0, h1, h2, h3⟩ := hall i hi (by omega)
    refine ⟨hz', ?_, ?_, ?_, ?_⟩
    · rw [if_neg (by omega), if_neg (by omega), if_neg (by omega), if_neg (by omega)]; exact h0
    · rw [if_neg (by omega), if_neg (by omega), if_neg (by omega), if_neg (by omega)]; exact h1
    · rw [if_neg (by omega), if_neg (by omega), if_neg (by omega), if_neg (by omega)]; exact h2
    · rw [if_neg (by omega), if_neg (by omega), if_neg (by omega), if_neg (by omega)]; exact h3

theorem LesFill.done {wr : World} {B : Nat} {Xl : List Le} {k : Nat} (h : LesFill wr B Xl k) (hk : Xl.length ≤ k) (hne : Xl ≠ []) (hm : Xl.length ≤ maxLen) : LesAt B wr (.slice (some ⟨B, 0, none⟩) Xl.length Xl.length) Xl := by
  obtain ⟨f, hr, hall⟩ := h
  refine Or.inr ⟨B, 0, Xl.length, rfl, hne, hm, hr.lt, Nat.le_refl _, Nat.le_refl _, fun i hi => ?_⟩
  obtain ⟨hz, h0, h1, h2, h3⟩ := hall i hi (by omega)
  rw [Nat.zero_add]
  exact ⟨hz, ⟨by rw [hr.cell (by omega), h0], by rw [hr.cell (by omega), h1], by rw [hr.cell (by omega), h2], by rw [hr.cell (by omega), h3]⟩⟩
theorem LesFill.new (w : World) (Xl : List Le) (z : Array Value) : LesFill (w.alloc (.cells (madeCells z (Xl.length * 4)) 140)) w.heap.size Xl 0 := by
  refine ⟨fun i => (madeCells z (Xl.length * 4)).getD i default, ?_, fun i _ h => by omega⟩
  have := World.rowIs_alloc w (madeCells z (Xl.length * 4)) 140 (fun i => (madeCells z (Xl.length * 4)).getD i default) (fun i hi => by simp [Array.getD, hi])
  rwa [size_madeCells] at this

set_option maxHeartbeats 2000000 in
theorem toLes_any (lo : Nat) (v : Value) (Xl : List Le) (w : World) (hv : LesAt lo w v Xl) (hn : LesSmall Xl) :
    Calls Tryz.prog 34 #[v] w fun e w' => ∃ v', e = .returned v' ∧ Below w.heap.size w w' ∧ LesAt w.heap.size w' v' Xl := by
  obtain ⟨i0, hi, hz0, hz1, hz2⟩ := info_parts Tryz.info140
  have hn1 := hn.1
  clear hn
  by_cases hL : Xl = []
  · subst hL
    obtain ⟨a, cap, rfl⟩ := hv.form
    clear hv
    have hmk : ∀ u : World, (Instr.makeSlice 47 (.int .i64 0) (.int .i64 0)).run Tryz.prog u = .ok (.slice (some ⟨u.heap.size, 0, none⟩) 0 0) (u.alloc (.cells (madeCells (Value.cells (.agg #[.string ⟨#[]⟩, .string ⟨#[]⟩, .int .i64 0, .int .i64 0])) 0) 140)) := fun u => by
      have h := run_make (P := Tryz.prog) u 47 140 i0 _ Tryz.underlying47 hi hz0 .i64 .i64 0 0 (by omega) (by omega) (by omega) (by omega)
      simpa [hz1] using h
    go_enter Tryz.func34, Tryz.ntmps34
    go_wp2
    go_loop [4] (fun i => i = .int .i64 0) (fun _ => 0)
    case atStart => rfl
    case round =>
      subst hrel
      go_wp2
      go_ret
      exact ⟨_, rfl, (Below.refl _ _).alloc (Nat.le_refl _) _, Or.inl ⟨_, _, rfl, rfl⟩⟩
  · obtain ⟨b, off, cap, rfl, hm, hbw, _, hc⟩ := hv.full hL
    clear hv
    have HM : Hid (Xl.length ≤ maxLen) := hm
    unfold maxLen at hm
    have hmk : ∀ u : World, (Instr.makeSlice 47 (.int .i64 (Xl.length : Int)) (.int .i64 (Xl.length : Int))).run Tryz.prog u = .ok (.slice (some ⟨u.heap.size, 0, none⟩) Xl.length Xl.length) (u.alloc (.cells (madeCells (Value.cells (.agg #[.string ⟨#[]⟩, .string ⟨#[]⟩, .int .i64 0, .int .i64 0])) (Xl.length * 4)) 140)) := fun u => by
      have h := run_make (P := Tryz.prog) u 47 140 i0 _ Tryz.underlying47 hi hz0 .i64 .i64 Xl.length Xl.length (by omega) (by omega) (by rw [hz2]; omega) (by omega)
      rw [hz1] at h
      simpa using h
    clear hi hz0 hz1 hz2
    go_enter Tryz.func34, Tryz.ntmps34
    go_wp2
    clear hmk
    go_loopw [4] (fun i wr => ∃ k : Nat, i = .int .i64 k ∧ k ≤ Xl.length ∧ Below w.heap.size w wr ∧ LesFill wr w.heap.size Xl k) (fun i _ => Xl.length - (intOf i).toNat)
    case atStart => exact ⟨0, rfl, by omega, (Below.refl _ _).alloc (Nat.le_refl _) _, LesFill.new w Xl _⟩
    case round =>
      obtain ⟨k, rfl, hk, hb, hf⟩ := hrel
      by_cases hlt : k < Xl.length
      · obtain ⟨hs, hc⟩ := hc k hlt
        obtain ⟨c0, c1, c2, c3⟩ := hc.below hb hbw
        have hBl : w.heap.size < wr.heap.size := by
          obtain ⟨_, hr, _⟩ := hf
          exact hr.lt
        clear hc 
        go_wp2_with fail
        refine (toLe_any _  _  ).mono ?_
        rintro e w1 ⟨rfl, hb1⟩
        have hf1 := hf.below hb1
        have HST := hide (hf1.step hlt hs )
        have hB : Hid (Below w.heap.size w w1) := hb.trans (hb1.mono hb.size)
        have hfr := hf1.free
        obtain ⟨o0, ho0⟩ := hf1.there (k * 4) (by omega)
        obtain ⟨o1, ho1⟩ := hf1.there (k * 4 + 1) (by omega)
        obtain ⟨o2, ho2⟩ := hf1.there (k * 4 + 2) (by omega)
        obtain ⟨o3, ho3⟩ := hf1.there (k * 4 + 3) (by omega)
        clear hf hf1 hb1 hb c0 c1 c2 c3 
        go_wp2
        go_roundw
        case rel =>
          exact ⟨k + 1, by go_num, by omega, ((((hB.out.setCell (Nat.le_refl _) _).setCell (Nat.le_refl _) _).setCell (Nat.le_refl _) _).setCell (Nat.le_refl _) _), HST.out⟩
        case measure => simp [intOf]; omega
      · go_wp2
        go_ret
        exact ⟨_, rfl, hb, hf.done (by omega) hL HM.out⟩
end Go.Proofs.YthfdfdlojfdckaaGreat

namespace Go.Proofs.YthfdfdlojfdckaaGreat
open Go.RowKit Go.Deep

structure Pu where
  dr : ByteArray
  tm : ByteArray
  re : ByteArray
  am : Int
  un : Int
structure PuSize (x : Pu) : Prop where
  s0 : x.dr.size ≤ maxLen
  s1 : x.tm.size ≤ maxLen
  s2 : x.re.size ≤ maxLen
def PuSmall (x : Pu) : Prop := x = x
structure PuCells (w : World) (b o : Nat) (x : Pu) : Prop where
  c0 : w.cell? ⟨b, o, none⟩ = some (.string x.dr)
  c1 : w.cell? ⟨b, o + 1, none⟩ = some (.string x.tm)
  c2 : w.cell? ⟨b, o + 2, none⟩ = some (.string x.re)
  c3 : w.cell? ⟨b, o + 3, none⟩ = some (.int .i64 x.am)
  c4 : w.cell? ⟨b, o + 4, none⟩ = some (.int .i64 x.un)
theorem PuCells.below {w w' : World} {b o : Nat} {x : Pu} (h : PuCells w b o x ) {m : Nat} (hb : Below m w w') (hlt : b < m) : PuCells w' b o x  := by
  have e : ∀ o, w'.cell? ⟨b, o, none⟩ = w.cell? ⟨b, o, none⟩ := fun o => hb.cell (p := ⟨b, o, none⟩) hlt
  exact ⟨by rw [e]; exact h.c0, by rw [e]; exact h.c1, by rw [e]; exact h.c2, by rw [e]; exact h.c3, by rw [e]; exact h.c4⟩
theorem PuCells.set {w : World} {b o : Nat} {x : Pu} (h : PuCells w b o x ) {p : Addr} (hp : b ≠ p.block) (u : Value) : PuCells (w.setCell p u) b o x  := by
  have e : ∀ o, (w.setCell p u).cell? ⟨b, o, none⟩ = w.cell? ⟨b, o, none⟩ := fun o => cell_setCell_ne _ _ _ _ hp
  exact ⟨by rw [e]; exact h.c0, by rw [e]; exact h.c1, by rw [e]; exact h.c2, by rw [e]; exact h.c3, by rw [e]; exact h.c4⟩
def PusAt (lo : Nat) (w : World) (v : Value) (Xl : List Pu) : Prop :=
  (∃ (a : Option Addr) (cap : Nat), v = .slice a 0 cap ∧ Xl = []) ∨
  ∃ (b off cap : Nat), v = .slice (some ⟨b, off, none⟩) Xl.length cap ∧ Xl ≠ [] ∧ Xl.length ≤ maxLen ∧ b < w.heap.size ∧ lo ≤ b ∧ Xl.length ≤ cap ∧
    ∀ i (h : i < Xl.length), PuSize Xl[i] ∧ PuCells w b (off + i * 5) Xl[i]
theorem PusAt.below {lo : Nat} {w w' : World} {v : Value} {Xl : List Pu} (h : PusAt lo w v Xl) (hb : Below w.heap.size w w') : PusAt lo w' v Xl := by
  rcases h with h | ⟨b, off, cap, h1, h2, h3, h4, h5, h6, h7⟩
  · exact Or.inl h
  · refine Or.inr ⟨b, off, cap, h1, h2, h3, Nat.lt_of_lt_of_le h4 hb.size, h5, h6, fun i hi => ?_⟩
    obtain ⟨hs, hc⟩ := h7 i hi
    exact ⟨hs, hc.below hb h4⟩
theorem PusAt.mono {lo lo' : Nat} {w : World} {v : Value} {Xl : List Pu} (h : PusAt lo w v Xl) (hl : lo' ≤ lo) : PusAt lo' w v Xl := by
  rcases h with h | ⟨b, off, cap, h1, h2, h3, h4, h5, h6, h7⟩
  · exact Or.inl h
  · refine Or.inr ⟨b, off, cap, h1, h2, h3, h4, Nat.le_trans hl h5, h6, fun i hi => ?_⟩
    obtain ⟨hs, hc⟩ := h7 i hi
    exact ⟨hs, hc⟩
theorem PusAt.set {lo : Nat} {w : World} {v : Value} {Xl : List Pu} (h : PusAt lo w v Xl) {p : Addr} (hp : p.block < lo) (u : Value) : PusAt lo (w.setCell p u) v Xl := by
  rcases h with h | ⟨b, off, cap, h1, h2, h3, h4, h5, h6, h7⟩
  · exact Or.inl h
  · refine Or.inr ⟨b, off, cap, h1, h2, h3, by simpa [World.setCell] using h4, h5, h6, fun i hi => ?_⟩
    obtain ⟨hs, hc⟩ := h7 i hi
    exact ⟨hs, hc.set (by omega) u⟩
theorem PusAt.form {lo : Nat} {w : World} {v : Value} {Xl : List Pu} (h : PusAt lo w v Xl) : ∃ a cap, v = .slice a Xl.length cap := by
  rcases h with ⟨a, cap, h, rfl⟩ | ⟨b, off, cap, h, _⟩
  · exact ⟨a, cap, h⟩
  · exact ⟨_, cap, h⟩
theorem PusAt.max {lo : Nat} {w : World} {v : Value} {Xl : List Pu} (h : PusAt lo w v Xl) : Xl.length ≤ maxLen := by
  rcases h with ⟨a, cap, h, rfl⟩ | ⟨b, off, cap, h, _, h3, _⟩
  · exact Nat.zero_le _
  · exact h3
theorem PusAt.full {lo : Nat} {w : World} {v : Value} {Xl : List Pu} (h : PusAt lo w v Xl) (hne : Xl ≠ []) : ∃ (b off cap : Nat), v = .slice (some ⟨b, off, none⟩) Xl.length cap ∧ Xl.length ≤ maxLen ∧ b < w.heap.size ∧ Xl.length ≤ cap ∧
    ∀ i (h : i < Xl.length), PuSize Xl[i] ∧ PuCells w b (off + i * 5) Xl[i] := by
  rcases h with ⟨_, _, _, h⟩ | ⟨b, off, cap, h1, _, h3, h4, _, h6, h7⟩
  · exact absurd h hne
  · exact ⟨b, off, cap, h1, h3, h4, h6, h7⟩
theorem PusAt.full' {lo : Nat} {w : World} {a : Option Addr} {n cap : Nat} {Xl : List Pu} (h : PusAt lo w (.slice a n cap) Xl) (hL : 0 < Xl.length) :
    ∃ b off, a = some ⟨b, off, none⟩ ∧ b < w.heap.size ∧ lo ≤ b ∧ ∀ i (h : i < Xl.length), PuSize Xl[i] ∧ PuCells w b (off + i * 5) Xl[i] := by
  rcases h with ⟨a', cap', h, rfl⟩ | ⟨b', off', cap', h1, h2, h3, h4, h5, h6, h7⟩
  · simp at hL
  · injection h1 with e1 e2 e3
    exact ⟨b', off', e1, h4, h5, h7⟩
def PusSmall (Xl : List Pu) : Prop := Xl.length ≤ 1048576 ∧ ∀ i (h : i < Xl.length), PuSmall Xl[i]
def SzPus (Xl : List Pu) (left r : Int) : Prop := -1 ≤ r ∧ r ≤ left ∧ (0 ≤ r → PusSmall Xl)

set_option maxHeartbeats 1000000 in
theorem szPu_any (x : Pu) (left : Int) (w : World) (h0 : 0 ≤ left) (h1 : left ≤ 1048576) (hz : PuSize x) :
    Calls Tryz.prog 61 #[.agg #[.string x.dr, .string x.tm, .string x.re, .int .i64 x.am, .int .i64 x.un], .int .i64 left] w
      fun e w' => ∃ r : Int, e = .returned (.int .i64 r) ∧ Below w.heap.size w w' ∧ -1 ≤ r ∧ r ≤ left ∧ (0 ≤ r → PuSmall x) := by
  obtain ⟨s0, s1, s2⟩ := hz
  unfold maxLen at s0 s1 s2
  go_enter Tryz.func61, Tryz.ntmps61
  go_wp2
  all_goals go_ret
  all_goals exact ⟨_, rfl, (Below.refl _ _).alloc (Nat.le_refl _) _, by omega, by omega, fun _ => rfl⟩
set_option maxHeartbeats 1000000 in
theorem toPu_any (x : Pu) (w : World) :
    Calls Tryz.prog 74 #[.agg #[.string x.dr, .string x.tm, .string x.re, .int .i64 x.am, .int .i64 x.un]] w fun e w' => e = .returned (.agg #[.string x.dr, .string x.tm, .string x.re, .int .i64 x.am, .int .i64 x.un]) ∧ Below w.heap.size w w' := by
  go_enter Tryz.func74, Tryz.ntmps74
  go_wp2
  refine bodyPost_ret (v := .agg #[.string x.dr, .string x.tm, .string x.re, .int .i64 x.am, .int .i64 x.un]) (by simp [results, Tryz.results74, go_sem]) rfl ⟨rfl, ?_⟩
  repeat (refine Below.setCell ?_ (by simp) _)
  exact (((Below.refl _ _).alloc (Nat.le_refl _) _).alloc (by simp) _).alloc (by simp; omega) _
set_option maxHeartbeats 1000000 in
theorem eqPu_same (x : Pu) (w : World) :
    Calls Tryz.prog 84 #[.agg #[.string x.dr, .string x.tm, .string x.re, .int .i64 x.am, .int .i64 x.un], .agg #[.string x.dr, .string x.tm, .string x.re, .int .i64 x.am, .int .i64 x.un]] w fun e w' => e = .returned (.bool true) ∧ Below w.heap.size w w' := by
  go_enter Tryz.func84, Tryz.ntmps84
  go_wp2
  go_ret
  exact ⟨rfl, ((Below.refl _ _).alloc (Nat.le_refl _) _).alloc (by simp) _⟩

set_option maxHeartbeats 1000000 in
theorem szPus_any (lo : Nat) (v : Value) (Xl : List Pu) (left : Int) (w : World) (h0 : 0 ≤ left) (h1 : left ≤ 1048576) (hv : PusAt lo w v Xl) :
    Calls Tryz.prog 26 #[v, .int .i64 left] w fun e w' => ∃ r : Int, e = .returned (.int .i64 r) ∧ Below w.heap.size w w' ∧ SzPus Xl left r := by
  rcases hv with ⟨a, cap, rfl, rfl⟩ | ⟨b, off, cap, rfl, hne, hm, hbw, _, _, hc⟩
  · go_enter Tryz.func26, Tryz.ntmps26
    go_wp2
    go_loop [1, 5] (fun l i => ∃ r : Int, l = .int .i64 r ∧ 0 ≤ r ∧ r ≤ left ∧ i = .int .i64 0) (fun _ _ => 0)
    case atStart => exact ⟨_, rfl, by omega, by omega, rfl⟩
    case round =>
      obtain ⟨r, rfl, hr0, hr1, rfl⟩ := hrel
      go_wp2
      go_ret
      exact ⟨r, rfl, Below.refl _ _, by omega, by omega, fun _ => ⟨by simp, fun i h => by simp at h⟩⟩
  · unfold maxLen at hm
    by_cases hle : (Xl.length : Int) ≤ left
    · go_enter Tryz.func26, Tryz.ntmps26
      go_wp2
      go_loopw [1, 5] (fun l i wr => ∃ (r : Int) (k : Nat), l = .int .i64 r ∧ 0 ≤ r ∧ r ≤ left ∧ i = .int .i64 k ∧ k ≤ Xl.length ∧ Below w.heap.size w wr ∧ ∀ j (hj : j < Xl.length), j < k → PuSmall Xl[j]) (fun _ i _ => Xl.length - (intOf i).toNat)
      case atStart => exact ⟨_, 0, rfl, by omega, by omega, rfl, by omega, Below.refl _ _, fun j _ h => by omega⟩
      case round =>
        obtain ⟨r, k, rfl, hr0, hr1, rfl, hk, hb, hall⟩ := hrel
        have HA := hide hall
        clear hall
        by_cases hlt : k < Xl.length
        · obtain ⟨hs, hc⟩ := hc k hlt
          obtain ⟨c0, c1, c2, c3, c4⟩ := hc.below hb hbw
          clear hc 
          go_wp2_with fail
          refine (szPu_any _  _ _ hr0 (by omega)  hs).mono ?_
          rintro e w1 ⟨r1, rfl, hb1, q0, q1, q2⟩
          have HQ2 := hide q2
          have hB : Hid (Below w.heap.size w w1) := hb.trans (hb1.mono hb.size)
          clear hb1 c0 c1 c2 c3 c4 hb q2 
          by_cases hneg : r1 < 0
          · go_wp2
            go_ret
            exact ⟨-1, rfl, hB.out, by omega, by omega, fun h => by omega⟩
          · have HL : Hid (PuSmall Xl[k]) := HQ2.out (by omega)
            clear HQ2
            go_wp2
            go_roundw
            case rel => exact ⟨_, k + 1, rfl, by omega, by omega, by go_num, by omega, hB.out, fun j hj h => by
                          by_cases e : j = k
                          · subst e; exact HL.out
                          · exact HA.out j hj (by omega)⟩
            case measure => simp [intOf]; omega
        · go_wp2
          go_ret
          exact ⟨r, rfl, hb, by omega, by omega, fun _ => ⟨by omega, fun j hj => HA.out j hj (by omega)⟩⟩
    · go_enter Tryz.func26, Tryz.ntmps26
      go_wp2
      go_ret
      exact ⟨-1, rfl, Below.refl _ _, by omega, by omega, fun h => by omega⟩

set_option maxHeartbeats 1000000 in
theorem eqPus_same (lo lo' : Nat) (v v' : Value) (Xl : List Pu) (w : World) (hv : PusAt lo w v Xl) (hv' : PusAt lo' w v' Xl) :
    Calls Tryz.prog 44 #[v, v'] w fun e w' => e = .returned (.bool true) ∧ Below w.heap.size w w' := by
  by_cases hL : Xl = []
  · subst hL
    obtain ⟨a, cap, rfl⟩ := hv.form
    obtain ⟨a', cap', rfl⟩ := hv'.form
    clear hv hv'
    go_enter Tryz.func44, Tryz.ntmps44
    go_wp2
    go_loop [5] (fun i => i = .int .i64 0) (fun _ => 0)
    case atStart => rfl
    case round =>
      subst hrel
      go_wp2
      go_ret
      exact ⟨rfl, Below.refl _ _⟩
  · obtain ⟨b, off, cap, rfl, hm, hbw, _, hc⟩ := hv.full hL
    obtain ⟨b', off', cap', rfl, _, hbw', _, hc'⟩ := hv'.full hL
    clear hv hv'
    unfold maxLen at hm
    go_enter Tryz.func44, Tryz.ntmps44
    go_wp2
    go_loopw [5] (fun i wr => ∃ k : Nat, i = .int .i64 k ∧ k ≤ Xl.length ∧ Below w.heap.size w wr) (fun i _ => Xl.length - (intOf i).toNat)
    case atStart => exact ⟨0, rfl, by omega, Below.refl _ _⟩
    case round =>
      obtain ⟨k, rfl, hk, hb⟩ := hrel
      by_cases hlt : k < Xl.length
      · obtain ⟨hs, hc⟩ := hc k hlt
        obtain ⟨ht, hd⟩ := hc' k hlt
        obtain ⟨c0, c1, c2, c3, c4⟩ := hc.below hb hbw
        obtain ⟨d0, d1, d2, d3, d4⟩ := hd.below hb hbw'
        clear hc hd   hs ht
        have HB := hide hb
        clear hb
        go_wp2
        go_region_with (go_at_call 84; refine (eqPu_same _  _  ).mono ?_; rintro e w1 ⟨rfl, hb1⟩; have hB : Hid (Below w.heap.size w w1) := (HB.out.drew).trans (hb1.mono HB.out.size); clear hb1)
        all_goals go_wp2
        all_goals go_roundw
        all_goals first
          | (case rel => exact ⟨k + 1, by go_num, by omega, hB.out⟩)
          | (case measure => simp [intOf]; omega)
      · go_wp2
        go_ret
        exact ⟨rfl, hb⟩

theorem Tryz.info142 : (Tryz.prog.info? 142).map (fun i => (i.zero, i.size, i.bytes)) = some (some (.agg #[.string ⟨#[]⟩, .string ⟨#[]⟩, .string ⟨#[]⟩, .int .i64 0, .int .i64 0]), 5, 64) := by kernel_rfl
def PusFill (wr : World) (B : Nat) (Xl : List Pu) (k : Nat) : Prop :=
  ∃ f, wr.rowIs B 142 (Xl.length * 5) f ∧ ∀ i (h : i < Xl.length), i < k → PuSize Xl[i] ∧ f (i * 5) = .string Xl[i].dr ∧ f (i * 5 + 1) = .string Xl[i].tm ∧ f (i * 5 + 2) = .string Xl[i].re ∧ f (i * 5 + 3) = .int .i64 Xl[i].am ∧ f (i * 5 + 4) = .int .i64 Xl[i].un
theorem PusFill.below {wr w1 : World} {B : Nat} {Xl : List Pu} {k : Nat} (h : PusFill wr B Xl k) (hb : Below wr.heap.size wr w1) : PusFill w1 B Xl k := by
  obtain ⟨f, hr, hall⟩ := h
  refine ⟨f, hr.of_block (hb.block B hr.lt), fun i hi hik => ?_⟩
  obtain ⟨hz, h0, h1, h2, h3, h4⟩ := hall i hi hik
  exact ⟨hz, h0, h1, h2, h3, h4⟩
theorem PusFill.free {wr : World} {B : Nat} {Xl : List Pu} {k : Nat} (h : PusFill wr B Xl k) (i : Nat) : wr.frozen? ⟨B, i, none⟩ = false := by
  obtain ⟨f, hr, _⟩ := h
  exact hr.frozen i
theorem PusFill.there {wr : World} {B : Nat} {Xl : List Pu} {k : Nat} (h : PusFill wr B Xl k) (i : Nat) (hi : i < Xl.length * 5) : ∃ v, wr.cell? ⟨B, i, none⟩ = some v := by
  obtain ⟨f, hr, _⟩ := h
  exact ⟨_, hr.cell hi⟩
theorem PusFill.step {w1 : World} {B : Nat} {Xl : List Pu} {k : Nat} (h : PusFill w1 B Xl k) (hk : k < Xl.length) (hz : PuSize Xl[k]) :
    PusFill (((((w1.setCell ⟨B, k * 5, none⟩ (.string Xl[k].dr)).setCell ⟨B, k * 5 + 1, none⟩ (.string Xl[k].tm)).setCell ⟨B, k * 5 + 2, none⟩ (.string Xl[k].re)).setCell ⟨B, k * 5 + 3, none⟩ (.int .i64 Xl[k].am)).setCell ⟨B, k * 5 + 4, none⟩ (.int .i64 Xl[k].un)) B Xl (k + 1) := by
  obtain ⟨f, hr, hall⟩ := h
  refine ⟨_, (((((hr.set _ _).set _ _).set _ _).set _ _).set _ _), fun i hi hik => ?_⟩
  by_cases e : i = k
  · subst e
    refine ⟨hz, by simp, by simp, by simp, by simp, by simp⟩
  · obtain ⟨hz', h0, h1, h2, h3, h4⟩ := hall i hi (by omega)
    refine ⟨hz', ?_, ?_, ?_, ?_, ?_⟩
    · rw [if_neg (by omega), if_neg (by omega), if_neg (by omega), if_neg (by omega), if_neg (by omega)]; exact h0
    · rw [if_neg (by omega), if_neg (by omega), if_neg (by omega), if_neg (by omega), if_neg (by omega)]; exact h1
    · rw [if_neg (by omega), if_neg (by omega), if_neg (by omega), if_neg (by omega), if_neg (by omega)]; exact h2
    · rw [if_neg (by omega), if_neg (by omega), if_neg (by omega), if_neg (by omega), if_neg (by omega)]; exact h3
    · rw [if_neg (by omega), if_neg (by omega), if_neg (by omega), if_neg (by omega), if_neg (by omega)]; exact h4

theorem PusFill.done {wr : World} {B : Nat} {Xl : List Pu} {k : Nat} (h : PusFill wr B Xl k) (hk : Xl.length ≤ k) (hne : Xl ≠ []) (hm : Xl.length ≤ maxLen) : PusAt B wr (.slice (some ⟨B, 0, none⟩) Xl.length Xl.length) Xl := by
  obtain ⟨f, hr, hall⟩ := h
  refine Or.inr ⟨B, 0, Xl.length, rfl, hne, hm, hr.lt, Nat.le_refl _, Nat.le_refl _, fun i hi => ?_⟩
  obtain ⟨hz, h0, h1, h2, h3, h4⟩ := hall i hi (by omega)
  rw [Nat.zero_add]
  exact ⟨hz, ⟨by rw [hr.cell (by omega), h0], by rw [hr.cell (by omega), h1], by rw [hr.cell (by omega), h2], by rw [hr.cell (by omega), h3], by rw [hr.cell (by omega), h4]⟩⟩
theorem PusFill.new (w : World) (Xl : List Pu) (z : Array Value) : PusFill (w.alloc (.cells (madeCells z (Xl.length * 5)) 142)) w.heap.size Xl 0 := by
  refine ⟨fun i => (madeCells z (Xl.length * 5)).getD i default, ?_, fun i _ h => by omega⟩
  have := World.rowIs_alloc w (madeCells z (Xl.length * 5)) 142 (fun i => (madeCells z (Xl.length * 5)).getD i default) (fun i hi => by simp [Array.getD, hi])
  rwa [size_madeCells] at this

set_option maxHeartbeats 2000000 in
theorem toPus_any (lo : Nat) (v : Value) (Xl : List Pu) (w : World) (hv : PusAt lo w v Xl) (hn : PusSmall Xl) :
    Calls Tryz.prog 35 #[v] w fun e w' => ∃ v', e = .returned v' ∧ Below w.heap.size w w' ∧ PusAt w.heap.size w' v' Xl := by
  obtain ⟨i0, hi, hz0, hz1, hz2⟩ := info_parts Tryz.info142
  have hn1 := hn.1
  clear hn
  by_cases hL : Xl = []
  · subst hL
    obtain ⟨a, cap, rfl⟩ := hv.form
    clear hv
    have hmk : ∀ u : World, (Instr.makeSlice 48 (.int .i64 0) (.int .i64 0)).run Tryz.prog u = .ok (.slice (some ⟨u.heap.size, 0, none⟩) 0 0) (u.alloc (.cells (madeCells (Value.cells (.agg #[.string ⟨#[]⟩, .string ⟨#[]⟩, .string ⟨#[]⟩, .int .i64 0, .int .i64 0])) 0) 142)) := fun u => by
      have h := run_make (P := Tryz.prog) u 48 142 i0 _ Tryz.underlying48 hi hz0 .i64 .i64 0 0 (by omega) (by omega) (by omega) (by omega)
      simpa [hz1] using h
    go_enter Tryz.func35, Tryz.ntmps35
    go_wp2
    go_loop [4] (fun i => i = .int .i64 0) (fun _ => 0)
    case atStart => rfl
    case round =>
      subst hrel
      go_wp2
      go_ret
      exact ⟨_, rfl, (Below.refl _ _).alloc (Nat.le_refl _) _, Or.inl ⟨_, _, rfl, rfl⟩⟩
  · obtain ⟨b, off, cap, rfl, hm, hbw, _, hc⟩ := hv.full hL
    clear hv
    have HM : Hid (Xl.length ≤ maxLen) := hm
    unfold maxLen at hm
    have hmk : ∀ u : World, (Instr.makeSlice 48 (.int .i64 (Xl.length : Int)) (.int .i64 (Xl.length : Int))).run Tryz.prog u = .ok (.slice (some ⟨u.heap.size, 0, none⟩) Xl.length Xl.length) (u.alloc (.cells (madeCells (Value.cells (.agg #[.string ⟨#[]⟩, .string ⟨#[]⟩, .string ⟨#[]⟩, .int .i64 0, .int .i64 0])) (Xl.length * 5)) 142)) := fun u => by
      have h := run_make (P := Tryz.prog) u 48 142 i0 _ Tryz.underlying48 hi hz0 .i64 .i64 Xl.length Xl.length (by omega) (by omega) (by rw [hz2]; omega) (by omega)
      rw [hz1] at h
      simpa using h
    clear hi hz0 hz1 hz2
    go_enter Tryz.func35, Tryz.ntmps35
    go_wp2
    clear hmk
    go_loopw [4] (fun i wr => ∃ k : Nat, i = .int .i64 k ∧ k ≤ Xl.length ∧ Below w.heap.size w wr ∧ PusFill wr w.heap.size Xl k) (fun i _ => Xl.length - (intOf i).toNat)
    case atStart => exact ⟨0, rfl, by omega, (Below.refl _ _).alloc (Nat.le_refl _) _, PusFill.new w Xl _⟩
    case round =>
      obtain ⟨k, rfl, hk, hb, hf⟩ := hrel
      by_cases hlt : k < Xl.length
      · obtain ⟨hs, hc⟩ := hc k hlt
        obtain ⟨c0, c1, c2, c3, c4⟩ := hc.below hb hbw
        have hBl : w.heap.size < wr.heap.size := by
          obtain ⟨_, hr, _⟩ := hf
          exact hr.lt
        clear hc 
        go_wp2_with fail
        refine (toPu_any _  _  ).mono ?_
        rintro e w1 ⟨rfl, hb1⟩
        have hf1 := hf.below hb1
        have HST := hide (hf1.step hlt hs )
        have hB : Hid (Below w.heap.size w w1) := hb.trans (hb1.mono hb.size)
        have hfr := hf1.free
        obtain ⟨o0, ho0⟩ := hf1.there (k * 5) (by omega)
        obtain ⟨o1, ho1⟩ := hf1.there (k * 5 + 1) (by omega)
        obtain ⟨o2, ho2⟩ := hf1.there (k * 5 + 2) (by omega)
        obtain ⟨o3, ho3⟩ := hf1.there (k * 5 + 3) (by omega)
        obtain ⟨o4, ho4⟩ := hf1.there (k * 5 + 4) (by omega)
        clear hf hf1 hb1 hb c0 c1 c2 c3 c4 
        go_wp2
        go_roundw
        case rel =>
          exact ⟨k + 1, by go_num, by omega, (((((hB.out.setCell (Nat.le_refl _) _).setCell (Nat.le_refl _) _).setCell (Nat.le_refl _) _).setCell (Nat.le_refl _) _).setCell (Nat.le_refl _) _), HST.out⟩
        case measure => simp [intOf]; omega
      · go_wp2
        go_ret
        exact ⟨_, rfl, hb, hf.done (by omega) hL HM.out⟩
end Go.Proofs.YthfdfdlojfdckaaGreat

