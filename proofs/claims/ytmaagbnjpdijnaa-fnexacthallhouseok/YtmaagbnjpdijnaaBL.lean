import Derived.Test.YtmaagbnjpdijnaaT0
import Derived.Test.YtmaagbnjpdijnaaW5
namespace Go.Proofs.Ytmaagbnjpdijnaa
open Go.RowKit Go.Deep

structure Le where
  tm : ByteArray
  re : ByteArray
  mo : Int
  fr : Int
structure LeSize (x : Le) : Prop where
  s0 : x.tm.size ≤ maxLen
  s1 : x.re.size ≤ maxLen
def LeSmall (x : Le) : Prop := x = x
structure LeCells (w : World) (b o : Nat) (x : Le) : Prop where
  c0 : w.cell? ⟨b, o, none⟩ = some (.string x.tm)
  c1 : w.cell? ⟨b, o + 1, none⟩ = some (.string x.re)
  c2 : w.cell? ⟨b, o + 2, none⟩ = some (.int .i64 x.mo)
  c3 : w.cell? ⟨b, o + 3, none⟩ = some (.int .i64 x.fr)
theorem LeCells.below {w w' : World} {b o : Nat} {x : Le} (h : LeCells w b o x ) {m : Nat} (hb : Below m w w') (hlt : b < m) : LeCells w' b o x  := by
  have e : ∀ o, w'.cell? ⟨b, o, none⟩ = w.cell? ⟨b, o, none⟩ := fun o => hb.cell (p := ⟨b, o, none⟩) hlt
  exact ⟨by rw [e]; exact h.c0, by rw [e]; exact h.c1, by rw [e]; exact h.c2, by rw [e]; exact h.c3⟩
theorem LeCells.set {w : World} {b o : Nat} {x : Le} (h : LeCells w b o x ) {p : Addr} (hp : b ≠ p.block) (u : Value) : LeCells (w.setCell p u) b o x  := by
  have e : ∀ o, (w.setCell p u).cell? ⟨b, o, none⟩ = w.cell? ⟨b, o, none⟩ := fun o => cell_setCell_ne _ _ _ _ hp
  exact ⟨by rw [e]; exact h.c0, by rw [e]; exact h.c1, by rw [e]; exact h.c2, by rw [e]; exact h.c3⟩
def LesAt (lo : Nat) (w : World) (v : Value) (Xl : List Le) : Prop :=
  (∃ (a : Option Addr) (cap : Nat), v = .slice a 0 cap ∧ Xl = []) ∨
  ∃ (b off cap : Nat), v = .slice (some ⟨b, off, none⟩) Xl.length cap ∧ Xl ≠ [] ∧ Xl.length ≤ maxLen ∧ b < w.heap.size ∧ lo ≤ b ∧ Xl.length ≤ cap ∧
    ∀ i (h : i < Xl.length), LeSize Xl[i] ∧ LeCells w b (off + i * 4) Xl[i]
theorem LesAt.below {lo : Nat} {w w' : World} {v : Value} {Xl : List Le} (h : LesAt lo w v Xl) (hb : Below w.heap.size w w') : LesAt lo w' v Xl := by
  rcases h with h | ⟨b, off, cap, h1, h2, h3, h4, h5, h6, h7⟩
  · exact Or.inl h
  · refine Or.inr ⟨b, off, cap, h1, h2, h3, Nat.lt_of_lt_of_le h4 hb.size, h5, h6, fun i hi => ?_⟩
    obtain ⟨hs, hc⟩ := h7 i hi
    exact ⟨hs, hc.below hb h4⟩
theorem LesAt.mono {lo lo' : Nat} {w : World} {v : Value} {Xl : List Le} (h : LesAt lo w v Xl) (hl : lo' ≤ lo) : LesAt lo' w v Xl := by
  rcases h with h | ⟨b, off, cap, h1, h2, h3, h4, h5, h6, h7⟩
  · exact Or.inl h
  · refine Or.inr ⟨b, off, cap, h1, h2, h3, h4, Nat.le_trans hl h5, h6, fun i hi => ?_⟩
    obtain ⟨hs, hc⟩ := h7 i hi
    exact ⟨hs, hc⟩
theorem LesAt.set {lo : Nat} {w : World} {v : Value} {Xl : List Le} (h : LesAt lo w v Xl) {p : Addr} (hp : p.block < lo) (u : Value) : LesAt lo (w.setCell p u) v Xl := by
  rcases h with h | ⟨b, off, cap, h1, h2, h3, h4, h5, h6, h7⟩
  · exact Or.inl h
  · refine Or.inr ⟨b, off, cap, h1, h2, h3, by simpa [World.setCell] using h4, h5, h6, fun i hi => ?_⟩
    obtain ⟨hs, hc⟩ := h7 i hi
    exact ⟨hs, hc.set (by omega) u⟩
theorem LesAt.form {lo : Nat} {w : World} {v : Value} {Xl : List Le} (h : LesAt lo w v Xl) : ∃ a cap, v = .slice a Xl.length cap := by
  rcases h with ⟨a, cap, h, rfl⟩ | ⟨b, off, cap, h, _⟩
  · exact ⟨a, cap, h⟩
  · exact ⟨_, cap, h⟩
theorem LesAt.max {lo : Nat} {w : World} {v : Value} {Xl : List Le} (h : LesAt lo w v Xl) : Xl.length ≤ maxLen := by
  rcases h with ⟨a, cap, h, rfl⟩ | ⟨b, off, cap, h, _, h3, _⟩
  · exact Nat.zero_le _
  · exact h3
theorem LesAt.full {lo : Nat} {w : World} {v : Value} {Xl : List Le} (h : LesAt lo w v Xl) (hne : Xl ≠ []) : ∃ (b off cap : Nat), v = .slice (some ⟨b, off, none⟩) Xl.length cap ∧ Xl.length ≤ maxLen ∧ b < w.heap.size ∧ Xl.length ≤ cap ∧
    ∀ i (h : i < Xl.length), LeSize Xl[i] ∧ LeCells w b (off + i * 4) Xl[i] := by
  rcases h with ⟨_, _, _, h⟩ | ⟨b, off, cap, h1, _, h3, h4, _, h6, h7⟩
  · exact absurd h hne
  · exact ⟨b, off, cap, h1, h3, h4, h6, h7⟩
theorem LesAt.full' {lo : Nat} {w : World} {a : Option Addr} {n cap : Nat} {Xl : List Le} (h : LesAt lo w (.slice a n cap) Xl) (hL : 0 < Xl.length) :
    ∃ b off, a = some ⟨b, off, none⟩ ∧ b < w.heap.size ∧ lo ≤ b ∧ ∀ i (h : i < Xl.length), LeSize Xl[i] ∧ LeCells w b (off + i * 4) Xl[i] := by
  rcases h with ⟨a', cap', h, rfl⟩ | ⟨b', off', cap', h1, h2, h3, h4, h5, h6, h7⟩
  · simp at hL
  · injection h1 with e1 e2 e3
    exact ⟨b', off', e1, h4, h5, h7⟩
def LesSmall (Xl : List Le) : Prop := Xl.length ≤ 1048576 ∧ ∀ i (h : i < Xl.length), LeSmall Xl[i]
def SzLes (Xl : List Le) (left r : Int) : Prop := -1 ≤ r ∧ r ≤ left ∧ (0 ≤ r → LesSmall Xl)

set_option maxHeartbeats 1000000 in
theorem eqLe_same (x : Le) (w : World) :
    Calls Try.prog 115 #[.agg #[.string x.tm, .string x.re, .int .i64 x.mo, .int .i64 x.fr], .agg #[.string x.tm, .string x.re, .int .i64 x.mo, .int .i64 x.fr]] w fun e w' => e = .returned (.bool true) ∧ Below w.heap.size w w' := by
  go_enter Try.func115, Try.ntmps115
  go_wp2
  go_ret
  exact ⟨rfl, ((Below.refl _ _).alloc (Nat.le_refl _) _).alloc (by simp) _⟩

set_option maxHeartbeats 1000000 in
theorem eqLes_same (lo lo' : Nat) (v v' : Value) (Xl : List Le) (w : World) (hv : LesAt lo w v Xl) (hv' : LesAt lo' w v' Xl) :
    Calls Try.prog 87 #[v, v'] w fun e w' => e = .returned (.bool true) ∧ Below w.heap.size w w' := by
  by_cases hL : Xl = []
  · subst hL
    obtain ⟨a, cap, rfl⟩ := hv.form
    obtain ⟨a', cap', rfl⟩ := hv'.form
    clear hv hv'
    go_enter Try.func87, Try.ntmps87
    go_wp2
    go_loop [5] (fun i => i = .int .i64 0) (fun _ => 0)
    case atStart => rfl
    case round =>
      subst hrel
      go_wp2
      go_ret
      exact ⟨rfl, Below.refl _ _⟩
  · obtain ⟨b, off, cap, rfl, hm, hbw, _, hc⟩ := hv.full hL
    obtain ⟨b', off', cap', rfl, _, hbw', _, hc'⟩ := hv'.full hL
    clear hv hv'
    unfold maxLen at hm
    go_enter Try.func87, Try.ntmps87
    go_wp2
    go_loopw [5] (fun i wr => ∃ k : Nat, i = .int .i64 k ∧ k ≤ Xl.length ∧ Below w.heap.size w wr) (fun i _ => Xl.length - (intOf i).toNat)
    case atStart => exact ⟨0, rfl, by omega, Below.refl _ _⟩
    case round =>
      obtain ⟨k, rfl, hk, hb⟩ := hrel
      by_cases hlt : k < Xl.length
      · obtain ⟨hs, hc⟩ := hc k hlt
        obtain ⟨ht, hd⟩ := hc' k hlt
        obtain ⟨c0, c1, c2, c3⟩ := hc.below hb hbw
        obtain ⟨d0, d1, d2, d3⟩ := hd.below hb hbw'
        clear hc hd   hs ht
        have HB := hide hb
        clear hb
        go_wp2
        go_region_with (go_at_call 115; refine (eqLe_same _  _  ).mono ?_; rintro e w1 ⟨rfl, hb1⟩; have hB : Hid (Below w.heap.size w w1) := (HB.out.drew).trans (hb1.mono HB.out.size); clear hb1)
        all_goals go_wp2
        all_goals go_roundw
        all_goals first
          | (case rel => exact ⟨k + 1, by go_num, by omega, hB.out⟩)
          | (case measure => simp [intOf]; omega)
      · go_wp2
        go_ret
        exact ⟨rfl, hb⟩

theorem Try.info155 : (Try.prog.info? 155).map (fun i => (i.zero, i.size, i.bytes)) = some (some (.agg #[.string ⟨#[]⟩, .string ⟨#[]⟩, .int .i64 0, .int .i64 0]), 4, 48) := by kernel_rfl
def LesFill (wr : World) (B : Nat) (Xl : List Le) (k : Nat) : Prop :=
  ∃ f, wr.rowIs B 155 (Xl.length * 4) f ∧ ∀ i (h : i < Xl.length), i < k → LeSize Xl[i] ∧ f (i * 4) = .string Xl[i].tm ∧ f (i * 4 + 1) = .string Xl[i].re ∧ f (i * 4 + 2) = .int .i64 Xl[i].mo ∧ f (i * 4 + 3) = .int .i64 Xl[i].fr
theorem LesFill.below {wr w1 : World} {B : Nat} {Xl : List Le} {k : Nat} (h : LesFill wr B Xl k) (hb : Below wr.heap.size wr w1) : LesFill w1 B Xl k := by
  obtain ⟨f, hr, hall⟩ := h
  refine ⟨f, hr.of_block (hb.block B hr.lt), fun i hi hik => ?_⟩
  obtain ⟨hz, h0, h1, h2, h3⟩ := hall i hi hik
  exact ⟨hz, h0, h1, h2, h3⟩
theorem LesFill.free {wr : World} {B : Nat} {Xl : List Le} {k : Nat} (h : LesFill wr B Xl k) (i : Nat) : wr.frozen? ⟨B, i, none⟩ = false := by
  obtain ⟨f, hr, _⟩ := h
  exact hr.frozen i
theorem LesFill.there {wr : World} {B : Nat} {Xl : List Le} {k : Nat} (h : LesFill wr B Xl k) (i : Nat) (hi : i < Xl.length * 4) : ∃ v, wr.cell? ⟨B, i, none⟩ = some v := by
  obtain ⟨f, hr, _⟩ := h
  exact ⟨_, hr.cell hi⟩
theorem LesFill.step {w1 : World} {B : Nat} {Xl : List Le} {k : Nat} (h : LesFill w1 B Xl k) (hk : k < Xl.length) (hz : LeSize Xl[k]) :
    LesFill ((((w1.setCell ⟨B, k * 4, none⟩ (.string Xl[k].tm)).setCell ⟨B, k * 4 + 1, none⟩ (.string Xl[k].re)).setCell ⟨B, k * 4 + 2, none⟩ (.int .i64 Xl[k].mo)).setCell ⟨B, k * 4 + 3, none⟩ (.int .i64 Xl[k].fr)) B Xl (k + 1) := by
  obtain ⟨f, hr, hall⟩ := h
  refine ⟨_, ((((hr.set _ _).set _ _).set _ _).set _ _), fun i hi hik => ?_⟩
  by_cases e : i = k
  · subst e
    refine ⟨hz, by simp, by simp, by simp, by simp⟩
  · obtain ⟨hz', h0, h1, h2, h3⟩ := hall i hi (by omega)
    refine ⟨hz', ?_, ?_, ?_, ?_⟩
    · rw [if_neg (by omega), if_neg (by omega), if_neg (by omega), if_neg (by omega)]; exact h0
    · rw [if_neg (by omega), if_neg (by omega), if_neg (by omega), if_neg (by omega)]; exact h1
    · rw [if_neg (by omega), if_neg (by omega), if_neg (by omega), if_neg (by omega)]; exact h2
    · rw [if_neg (by omega), if_neg (by omega), if_neg (by omega), if_neg (by omega)]; exact h3

theorem LesFill.done {wr : World} {B : Nat} {Xl : List Le} {k : Nat} (h : LesFill wr B Xl k) (hk : Xl.length ≤ k) (hne : Xl ≠ []) (hm : Xl.length ≤ maxLen) : LesAt B wr (.slice (some ⟨B, 0, none⟩) Xl.length Xl.length) Xl := by
  obtain ⟨f, hr, hall⟩ := h
  refine Or.inr ⟨B, 0, Xl.length, rfl, hne, hm, hr.lt, Nat.le_refl _, Nat.le_refl _, fun i hi => ?_⟩
  obtain ⟨hz, h0, h1, h2, h3⟩ := hall i hi (by omega)
  rw [Nat.zero_add]
  exact ⟨hz, ⟨by rw [hr.cell (by omega), h0], by rw [hr.cell (by omega), h1], by rw [hr.cell (by omega), h2], by rw [hr.cell (by omega), h3]⟩⟩
theorem LesFill.new (w : World) (Xl : List Le) (z : Array Value) : LesFill (w.alloc (.cells (madeCells z (Xl.length * 4)) 155)) w.heap.size Xl 0 := by
  refine ⟨fun i => (madeCells z (Xl.length * 4)).getD i default, ?_, fun i _ h => by omega⟩
  have := World.rowIs_alloc w (madeCells z (Xl.length * 4)) 155 (fun i => (madeCells z (Xl.length * 4)).getD i default) (fun i hi => by simp [Array.getD, hi])
  rwa [size_madeCells] at this

end Go.Proofs.Ytmaagbnjpdijnaa

