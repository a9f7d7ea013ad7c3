import Derived.Test.YtmaagbnjpdijnaaT0
import Derived.Test.YtmaagbnjpdijnaaW5
namespace Go.Proofs.Ytmaagbnjpdijnaa
open Go.RowKit Go.Deep

structure Pu where
  dr : ByteArray
  tm : ByteArray
  re : ByteArray
  am : Int
  un : Int
structure PuSize (x : Pu) : Prop where
  s0 : x.dr.size ≤ maxLen
  s1 : x.tm.size ≤ maxLen
  s2 : x.re.size ≤ maxLen
def PuSmall (x : Pu) : Prop := x = x
structure PuCells (w : World) (b o : Nat) (x : Pu) : Prop where
  c0 : w.cell? ⟨b, o, none⟩ = some (.string x.dr)
  c1 : w.cell? ⟨b, o + 1, none⟩ = some (.string x.tm)
  c2 : w.cell? ⟨b, o + 2, none⟩ = some (.string x.re)
  c3 : w.cell? ⟨b, o + 3, none⟩ = some (.int .i64 x.am)
  c4 : w.cell? ⟨b, o + 4, none⟩ = some (.int .i64 x.un)
theorem PuCells.below {w w' : World} {b o : Nat} {x : Pu} (h : PuCells w b o x ) {m : Nat} (hb : Below m w w') (hlt : b < m) : PuCells w' b o x  := by
  have e : ∀ o, w'.cell? ⟨b, o, none⟩ = w.cell? ⟨b, o, none⟩ := fun o => hb.cell (p := ⟨b, o, none⟩) hlt
  exact ⟨by rw [e]; exact h.c0, by rw [e]; exact h.c1, by rw [e]; exact h.c2, by rw [e]; exact h.c3, by rw [e]; exact h.c4⟩
theorem PuCells.set {w : World} {b o : Nat} {x : Pu} (h : PuCells w b o x ) {p : Addr} (hp : b ≠ p.block) (u : Value) : PuCells (w.setCell p u) b o x  := by
  have e : ∀ o, (w.setCell p u).cell? ⟨b, o, none⟩ = w.cell? ⟨b, o, none⟩ := fun o => cell_setCell_ne _ _ _ _ hp
  exact ⟨by rw [e]; exact h.c0, by rw [e]; exact h.c1, by rw [e]; exact h.c2, by rw [e]; exact h.c3, by rw [e]; exact h.c4⟩
def PusAt (lo : Nat) (w : World) (v : Value) (Xl : List Pu) : Prop :=
  (∃ (a : Option Addr) (cap : Nat), v = .slice a 0 cap ∧ Xl = []) ∨
  ∃ (b off cap : Nat), v = .slice (some ⟨b, off, none⟩) Xl.length cap ∧ Xl ≠ [] ∧ Xl.length ≤ maxLen ∧ b < w.heap.size ∧ lo ≤ b ∧ Xl.length ≤ cap ∧
    ∀ i (h : i < Xl.length), PuSize Xl[i] ∧ PuCells w b (off + i * 5) Xl[i]
theorem PusAt.below {lo : Nat} {w w' : World} {v : Value} {Xl : List Pu} (h : PusAt lo w v Xl) (hb : Below w.heap.size w w') : PusAt lo w' v Xl := by
  rcases h with h | ⟨b, off, cap, h1, h2, h3, h4, h5, h6, h7⟩
  · exact Or.inl h
  · refine Or.inr ⟨b, off, cap, h1, h2, h3, Nat.lt_of_lt_of_le h4 hb.size, h5, h6, fun i hi => ?_⟩
    obtain ⟨hs, hc⟩ := h7 i hi
    exact ⟨hs, hc.below hb h4⟩
theorem PusAt.mono {lo lo' : Nat} {w : World} {v : Value} {Xl : List Pu} (h : PusAt lo w v Xl) (hl : lo' ≤ lo) : PusAt lo' w v Xl := by
  rcases h with h | ⟨b, off, cap, h1, h2, h3, h4, h5, h6, h7⟩
  · exact Or.inl h
  · refine Or.inr ⟨b, off, cap, h1, h2, h3, h4, Nat.le_trans hl h5, h6, fun i hi => ?_⟩
    obtain ⟨hs, hc⟩ := h7 i hi
    exact ⟨hs, hc⟩
theorem PusAt.set {lo : Nat} {w : World} {v : Value} {Xl : List Pu} (h : PusAt lo w v Xl) {p : Addr} (hp : p.block < lo) (u : Value) : PusAt lo (w.setCell p u) v Xl := by
  rcases h with h | ⟨b, off, cap, h1, h2, h3, h4, h5, h6, h7⟩
  · exact Or.inl h
  · refine Or.inr ⟨b, off, cap, h1, h2, h3, by simpa [World.setCell] using h4, h5, h6, fun i hi => ?_⟩
    obtain ⟨hs, hc⟩ := h7 i hi
    exact ⟨hs, hc.set (by omega) u⟩
theorem PusAt.form {lo : Nat} {w : World} {v : Value} {Xl : List Pu} (h : PusAt lo w v Xl) : ∃ a cap, v = .slice a Xl.length cap := by
  rcases h with ⟨a, cap, h, rfl⟩ | ⟨b, off, cap, h, _⟩
  · exact ⟨a, cap, h⟩
  · exact ⟨_, cap, h⟩
theorem PusAt.max {lo : Nat} {w : World} {v : Value} {Xl : List Pu} (h : PusAt lo w v Xl) : Xl.length ≤ maxLen := by
  rcases h with ⟨a, cap, h, rfl⟩ | ⟨b, off, cap, h, _, h3, _⟩
  · exact Nat.zero_le _
  · exact h3
theorem PusAt.full {lo : Nat} {w : World} {v : Value} {Xl : List Pu} (h : PusAt lo w v Xl) (hne : Xl ≠ []) : ∃ (b off cap : Nat), v = .slice (some ⟨b, off, none⟩) Xl.length cap ∧ Xl.length ≤ maxLen ∧ b < w.heap.size ∧ Xl.length ≤ cap ∧
    ∀ i (h : i < Xl.length), PuSize Xl[i] ∧ PuCells w b (off + i * 5) Xl[i] := by
  rcases h with ⟨_, _, _, h⟩ | ⟨b, off, cap, h1, _, h3, h4, _, h6, h7⟩
  · exact absurd h hne
  · exact ⟨b, off, cap, h1, h3, h4, h6, h7⟩
theorem PusAt.full' {lo : Nat} {w : World} {a : Option Addr} {n cap : Nat} {Xl : List Pu} (h : PusAt lo w (.slice a n cap) Xl) (hL : 0 < Xl.length) :
    ∃ b off, a = some ⟨b, off, none⟩ ∧ b < w.heap.size ∧ lo ≤ b ∧ ∀ i (h : i < Xl.length), PuSize Xl[i] ∧ PuCells w b (off + i * 5) Xl[i] := by
  rcases h with ⟨a', cap', h, rfl⟩ | ⟨b', off', cap', h1, h2, h3, h4, h5, h6, h7⟩
  · simp at hL
  · injection h1 with e1 e2 e3
    exact ⟨b', off', e1, h4, h5, h7⟩
def PusSmall (Xl : List Pu) : Prop := Xl.length ≤ 1048576 ∧ ∀ i (h : i < Xl.length), PuSmall Xl[i]
def SzPus (Xl : List Pu) (left r : Int) : Prop := -1 ≤ r ∧ r ≤ left ∧ (0 ≤ r → PusSmall Xl)

set_option maxHeartbeats 1000000 in
theorem eqPu_same (x : Pu) (w : World) :
    Calls Try.prog 116 #[.agg #[.string x.dr, .string x.tm, .string x.re, .int .i64 x.am, .int .i64 x.un], .agg #[.string x.dr, .string x.tm, .string x.re, .int .i64 x.am, .int .i64 x.un]] w fun e w' => e = .returned (.bool true) ∧ Below w.heap.size w w' := by
  go_enter Try.func116, Try.ntmps116
  go_wp2
  go_ret
  exact ⟨rfl, ((Below.refl _ _).alloc (Nat.le_refl _) _).alloc (by simp) _⟩

set_option maxHeartbeats 1000000 in
theorem eqPus_same (lo lo' : Nat) (v v' : Value) (Xl : List Pu) (w : World) (hv : PusAt lo w v Xl) (hv' : PusAt lo' w v' Xl) :
    Calls Try.prog 88 #[v, v'] w fun e w' => e = .returned (.bool true) ∧ Below w.heap.size w w' := by
  by_cases hL : Xl = []
  · subst hL
    obtain ⟨a, cap, rfl⟩ := hv.form
    obtain ⟨a', cap', rfl⟩ := hv'.form
    clear hv hv'
    go_enter Try.func88, Try.ntmps88
    go_wp2
    go_loop [5] (fun i => i = .int .i64 0) (fun _ => 0)
    case atStart => rfl
    case round =>
      subst hrel
      go_wp2
      go_ret
      exact ⟨rfl, Below.refl _ _⟩
  · obtain ⟨b, off, cap, rfl, hm, hbw, _, hc⟩ := hv.full hL
    obtain ⟨b', off', cap', rfl, _, hbw', _, hc'⟩ := hv'.full hL
    clear hv hv'
    unfold maxLen at hm
    go_enter Try.func88, Try.ntmps88
    go_wp2
    go_loopw [5] (fun i wr => ∃ k : Nat, i = .int .i64 k ∧ k ≤ Xl.length ∧ Below w.heap.size w wr) (fun i _ => Xl.length - (intOf i).toNat)
    case atStart => exact ⟨0, rfl, by omega, Below.refl _ _⟩
    case round =>
      obtain ⟨k, rfl, hk, hb⟩ := hrel
      by_cases hlt : k < Xl.length
      · obtain ⟨hs, hc⟩ := hc k hlt
        obtain ⟨ht, hd⟩ := hc' k hlt
        obtain ⟨c0, c1, c2, c3, c4⟩ := hc.below hb hbw
        obtain ⟨d0, d1, d2, d3, d4⟩ := hd.below hb hbw'
        clear hc hd   hs ht
        have HB := hide hb
        clear hb
        go_wp2
        go_region_with (go_at_call 116; refine (eqPu_same _  _  ).mono ?_; rintro e w1 ⟨rfl, hb1⟩; have hB : Hid (Below w.heap.size w w1) := (HB.out.drew).trans (hb1.mono HB.out.size); clear hb1)
        all_goals go_wp2
        all_goals go_roundw
        all_goals first
          | (case rel => exact ⟨k + 1, by go_num, by omega, hB.out⟩)
          | (case measure => simp [intOf]; omega)
      · go_wp2
        go_ret
        exact ⟨rfl, hb⟩

theorem Try.info158 : (Try.prog.info? 158).map (fun i => (i.zero, i.size, i.bytes)) = some (some (.agg #[.string ⟨#[]⟩, .string ⟨#[]⟩, .string ⟨#[]⟩, .int .i64 0, .int .i64 0]), 5, 64) := by kernel_rfl
def PusFill (wr : World) (B : Nat) (Xl : List Pu) (k : Nat) : Prop :=
  ∃ f, wr.rowIs B 158 (Xl.length * 5) f ∧ ∀ i (h : i < Xl.length), i < k → PuSize Xl[i] ∧ f (i * 5) = .string Xl[i].dr ∧ f (i * 5 + 1) = .string Xl[i].tm ∧ f (i * 5 + 2) = .string Xl[i].re ∧ f (i * 5 + 3) = .int .i64 Xl[i].am ∧ f (i * 5 + 4) = .int .i64 Xl[i].un
theorem PusFill.below {wr w1 : World} {B : Nat} {Xl : List Pu} {k : Nat} (h : PusFill wr B Xl k) (hb : Below wr.heap.size wr w1) : PusFill w1 B Xl k := by
  obtain ⟨f, hr, hall⟩ := h
  refine ⟨f, hr.of_block (hb.block B hr.lt), fun i hi hik => ?_⟩
  obtain ⟨hz, h0, h1, h2, h3, h4⟩ := hall i hi hik
  exact ⟨hz, h0, h1, h2, h3, h4⟩
theorem PusFill.free {wr : World} {B : Nat} {Xl : List Pu} {k : Nat} (h : PusFill wr B Xl k) (i : Nat) : wr.frozen? ⟨B, i, none⟩ = false := by
  obtain ⟨f, hr, _⟩ := h
  exact hr.frozen i
theorem PusFill.there {wr : World} {B : Nat} {Xl : List Pu} {k : Nat} (h : PusFill wr B Xl k) (i : Nat) (hi : i < Xl.length * 5) : ∃ v, wr.cell? ⟨B, i, none⟩ = some v := by
  obtain ⟨f, hr, _⟩ := h
  exact ⟨_, hr.cell hi⟩
theorem PusFill.step {w1 : World} {B : Nat} {Xl : List Pu} {k : Nat} (h : PusFill w1 B Xl k) (hk : k < Xl.length) (hz : PuSize Xl[k]) :
    PusFill (((((w1.setCell ⟨B, k * 5, none⟩ (.string Xl[k].dr)).setCell ⟨B, k * 5 + 1, none⟩ (.string Xl[k].tm)).setCell ⟨B, k * 5 + 2, none⟩ (.string Xl[k].re)).setCell ⟨B, k * 5 + 3, none⟩ (.int .i64 Xl[k].am)).setCell ⟨B, k * 5 + 4, none⟩ (.int .i64 Xl[k].un)) B Xl (k + 1) := by
  obtain ⟨f, hr, hall⟩ := h
  refine ⟨_, (((((hr.set _ _).set _ _).set _ _).set _ _).set _ _), fun i hi hik => ?_⟩
  by_cases e : i = k
  · subst e
    refine ⟨hz, by simp, by simp, by simp, by simp, by simp⟩
  · obtain ⟨hz', h0, h1, h2, h3, h4⟩ := hall i hi (by omega)
    refine ⟨hz', ?_, ?_, ?_, ?_, ?_⟩
    · rw [if_neg (by omega), if_neg (by omega), if_neg (by omega), if_neg (by omega), if_neg (by omega)]; exact h0
    · rw [if_neg (by omega), if_neg (by omega), if_neg (by omega), if_neg (by omega), if_neg (by omega)]; exact h1
    · rw [if_neg (by omega), if_neg (by omega), if_neg (by omega), if_neg (by omega), if_neg (by omega)]; exact h2
    · rw [if_neg (by omega), if_neg (by omega), if_neg (by omega), if_neg (by omega), if_neg (by omega)]; exact h3
    · rw [if_neg (by omega), if_neg (by omega), if_neg (by omega), if_neg (by omega), if_neg (by omega)]; exact h4

theorem PusFill.done {wr : World} {B : Nat} {Xl : List Pu} {k : Nat} (h : PusFill wr B Xl k) (hk : Xl.length ≤ k) (hne : Xl ≠ []) (hm : Xl.length ≤ maxLen) : PusAt B wr (.slice (some ⟨B, 0, none⟩) Xl.length Xl.length) Xl := by
  obtain ⟨f, hr, hall⟩ := h
  refine Or.inr ⟨B, 0, Xl.length, rfl, hne, hm, hr.lt, Nat.le_refl _, Nat.le_refl _, fun i hi => ?_⟩
  obtain ⟨hz, h0, h1, h2, h3, h4⟩ := hall i hi (by omega)
  rw [Nat.zero_add]
  exact ⟨hz, ⟨by rw [hr.cell (by omega), h0], by rw [hr.cell (by omega), h1], by rw [hr.cell (by omega), h2], by rw [hr.cell (by omega), h3], by rw [hr.cell (by omega), h4]⟩⟩
theorem PusFill.new (w : World) (Xl : List Pu) (z : Array Value) : PusFill (w.alloc (.cells (madeCells z (Xl.length * 5)) 158)) w.heap.size Xl 0 := by
  refine ⟨fun i => (madeCells z (Xl.length * 5)).getD i default, ?_, fun i _ h => by omega⟩
  have := World.rowIs_alloc w (madeCells z (Xl.length * 5)) 158 (fun i => (madeCells z (Xl.length * 5)).getD i default) (fun i hi => by simp [Array.getD, hi])
  rwa [size_madeCells] at this

end Go.Proofs.Ytmaagbnjpdijnaa

