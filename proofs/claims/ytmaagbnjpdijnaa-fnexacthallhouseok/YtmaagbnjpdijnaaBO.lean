import Derived.Test.YtmaagbnjpdijnaaO1
import Derived.Test.YtmaagbnjpdijnaaW5
import Derived.Test.YtmaagbnjpdijnaaDA
namespace Go.Proofs.Ytmaagbnjpdijnaa
open Go.RowKit Go.Deep

structure Ob where
  kd : ByteArray
  nm : ByteArray
  tm : ByteArray
  vs : List ByteArray
  en : Bool
  hs : List ByteArray
  ver : Int
structure ObSize (x : Ob) : Prop where
  s0 : x.kd.size ≤ maxLen
  s1 : x.nm.size ≤ maxLen
  s2 : x.tm.size ≤ maxLen
def ObSmall (x : Ob) : Prop := x.vs.length ≤ 1048576 ∧ x.hs.length ≤ 1048576
structure ObCells (w : World) (b o : Nat) (x : Ob) (vv0 vv1 : Value) : Prop where
  c0 : w.cell? ⟨b, o, none⟩ = some (.string x.kd)
  c1 : w.cell? ⟨b, o + 1, none⟩ = some (.string x.nm)
  c2 : w.cell? ⟨b, o + 2, none⟩ = some (.string x.tm)
  c3 : w.cell? ⟨b, o + 3, none⟩ = some vv0
  c4 : w.cell? ⟨b, o + 4, none⟩ = some (.bool x.en)
  c5 : w.cell? ⟨b, o + 5, none⟩ = some vv1
  c6 : w.cell? ⟨b, o + 6, none⟩ = some (.int .i64 x.ver)
theorem ObCells.below {w w' : World} {b o : Nat} {x : Ob} {vv0 vv1 : Value} (h : ObCells w b o x vv0 vv1) {m : Nat} (hb : Below m w w') (hlt : b < m) : ObCells w' b o x vv0 vv1 := by
  have e : ∀ o, w'.cell? ⟨b, o, none⟩ = w.cell? ⟨b, o, none⟩ := fun o => hb.cell (p := ⟨b, o, none⟩) hlt
  exact ⟨by rw [e]; exact h.c0, by rw [e]; exact h.c1, by rw [e]; exact h.c2, by rw [e]; exact h.c3, by rw [e]; exact h.c4, by rw [e]; exact h.c5, by rw [e]; exact h.c6⟩
theorem ObCells.set {w : World} {b o : Nat} {x : Ob} {vv0 vv1 : Value} (h : ObCells w b o x vv0 vv1) {p : Addr} (hp : b ≠ p.block) (u : Value) : ObCells (w.setCell p u) b o x vv0 vv1 := by
  have e : ∀ o, (w.setCell p u).cell? ⟨b, o, none⟩ = w.cell? ⟨b, o, none⟩ := fun o => cell_setCell_ne _ _ _ _ hp
  exact ⟨by rw [e]; exact h.c0, by rw [e]; exact h.c1, by rw [e]; exact h.c2, by rw [e]; exact h.c3, by rw [e]; exact h.c4, by rw [e]; exact h.c5, by rw [e]; exact h.c6⟩
def ObsAt (lo : Nat) (w : World) (v : Value) (Xl : List Ob) : Prop :=
  (∃ (a : Option Addr) (cap : Nat), v = .slice a 0 cap ∧ Xl = []) ∨
  ∃ (b off cap : Nat), v = .slice (some ⟨b, off, none⟩) Xl.length cap ∧ Xl ≠ [] ∧ Xl.length ≤ maxLen ∧ b < w.heap.size ∧ lo ≤ b ∧ Xl.length ≤ cap ∧
    ∀ i (h : i < Xl.length), ObSize Xl[i] ∧ ∃ vv0 vv1, ObCells w b (off + i * 7) Xl[i] vv0 vv1 ∧ StrsIn lo w vv0 Xl[i].vs ∧ StrsIn lo w vv1 Xl[i].hs
theorem ObsAt.below {lo : Nat} {w w' : World} {v : Value} {Xl : List Ob} (h : ObsAt lo w v Xl) (hb : Below w.heap.size w w') : ObsAt lo w' v Xl := by
  rcases h with h | ⟨b, off, cap, h1, h2, h3, h4, h5, h6, h7⟩
  · exact Or.inl h
  · refine Or.inr ⟨b, off, cap, h1, h2, h3, Nat.lt_of_lt_of_le h4 hb.size, h5, h6, fun i hi => ?_⟩
    obtain ⟨hs, vv0, vv1, hc, hv0, hv1⟩ := h7 i hi
    exact ⟨hs, vv0, vv1, hc.below hb h4, hv0.below hb, hv1.below hb⟩
theorem ObsAt.mono {lo lo' : Nat} {w : World} {v : Value} {Xl : List Ob} (h : ObsAt lo w v Xl) (hl : lo' ≤ lo) : ObsAt lo' w v Xl := by
  rcases h with h | ⟨b, off, cap, h1, h2, h3, h4, h5, h6, h7⟩
  · exact Or.inl h
  · refine Or.inr ⟨b, off, cap, h1, h2, h3, h4, Nat.le_trans hl h5, h6, fun i hi => ?_⟩
    obtain ⟨hs, vv0, vv1, hc, hv0, hv1⟩ := h7 i hi
    exact ⟨hs, vv0, vv1, hc, hv0.mono hl, hv1.mono hl⟩
theorem ObsAt.set {lo : Nat} {w : World} {v : Value} {Xl : List Ob} (h : ObsAt lo w v Xl) {p : Addr} (hp : p.block < lo) (u : Value) : ObsAt lo (w.setCell p u) v Xl := by
  rcases h with h | ⟨b, off, cap, h1, h2, h3, h4, h5, h6, h7⟩
  · exact Or.inl h
  · refine Or.inr ⟨b, off, cap, h1, h2, h3, by simpa [World.setCell] using h4, h5, h6, fun i hi => ?_⟩
    obtain ⟨hs, vv0, vv1, hc, hv0, hv1⟩ := h7 i hi
    exact ⟨hs, vv0, vv1, hc.set (by omega) u, hv0.setCell hp u, hv1.setCell hp u⟩
theorem ObsAt.form {lo : Nat} {w : World} {v : Value} {Xl : List Ob} (h : ObsAt lo w v Xl) : ∃ a cap, v = .slice a Xl.length cap := by
  rcases h with ⟨a, cap, h, rfl⟩ | ⟨b, off, cap, h, _⟩
  · exact ⟨a, cap, h⟩
  · exact ⟨_, cap, h⟩
theorem ObsAt.max {lo : Nat} {w : World} {v : Value} {Xl : List Ob} (h : ObsAt lo w v Xl) : Xl.length ≤ maxLen := by
  rcases h with ⟨a, cap, h, rfl⟩ | ⟨b, off, cap, h, _, h3, _⟩
  · exact Nat.zero_le _
  · exact h3
theorem ObsAt.full {lo : Nat} {w : World} {v : Value} {Xl : List Ob} (h : ObsAt lo w v Xl) (hne : Xl ≠ []) : ∃ (b off cap : Nat), v = .slice (some ⟨b, off, none⟩) Xl.length cap ∧ Xl.length ≤ maxLen ∧ b < w.heap.size ∧ Xl.length ≤ cap ∧
    ∀ i (h : i < Xl.length), ObSize Xl[i] ∧ ∃ vv0 vv1, ObCells w b (off + i * 7) Xl[i] vv0 vv1 ∧ StrsIn lo w vv0 Xl[i].vs ∧ StrsIn lo w vv1 Xl[i].hs := by
  rcases h with ⟨_, _, _, h⟩ | ⟨b, off, cap, h1, _, h3, h4, _, h6, h7⟩
  · exact absurd h hne
  · exact ⟨b, off, cap, h1, h3, h4, h6, h7⟩
theorem ObsAt.full' {lo : Nat} {w : World} {a : Option Addr} {n cap : Nat} {Xl : List Ob} (h : ObsAt lo w (.slice a n cap) Xl) (hL : 0 < Xl.length) :
    ∃ b off, a = some ⟨b, off, none⟩ ∧ b < w.heap.size ∧ lo ≤ b ∧ ∀ i (h : i < Xl.length), ObSize Xl[i] ∧ ∃ vv0 vv1, ObCells w b (off + i * 7) Xl[i] vv0 vv1 ∧ StrsIn lo w vv0 Xl[i].vs ∧ StrsIn lo w vv1 Xl[i].hs := by
  rcases h with ⟨a', cap', h, rfl⟩ | ⟨b', off', cap', h1, h2, h3, h4, h5, h6, h7⟩
  · simp at hL
  · injection h1 with e1 e2 e3
    exact ⟨b', off', e1, h4, h5, h7⟩
def ObsSmall (Xl : List Ob) : Prop := Xl.length ≤ 1048576 ∧ ∀ i (h : i < Xl.length), ObSmall Xl[i]
def SzObs (Xl : List Ob) (left r : Int) : Prop := -1 ≤ r ∧ r ≤ left ∧ (0 ≤ r → ObsSmall Xl)

theorem eqOb_same (lo lo' : Nat) (x : Ob) (vv0 vv1 vv0' vv1' : Value) (w : World) (hv0 : StrsIn lo w vv0 x.vs) (hv1 : StrsIn lo w vv1 x.hs) (hw0 : StrsIn lo' w vv0' x.vs) (hw1 : StrsIn lo' w vv1' x.hs) :
    Calls Try.prog 114 #[.agg #[.string x.kd, .string x.nm, .string x.tm, vv0, .bool x.en, vv1, .int .i64 x.ver], .agg #[.string x.kd, .string x.nm, .string x.tm, vv0', .bool x.en, vv1', .int .i64 x.ver]] w fun e w' => e = .returned (.bool true) ∧ Below w.heap.size w w' :=
  eqObj_same x.kd x.nm x.tm vv0 vv1 x.en x.ver x.vs x.hs w vv0' vv1' hv0.at hv1.at hw0.at hw1.at

set_option maxHeartbeats 1000000 in
theorem eqObs_same (lo lo' : Nat) (v v' : Value) (Xl : List Ob) (w : World) (hv : ObsAt lo w v Xl) (hv' : ObsAt lo' w v' Xl) :
    Calls Try.prog 86 #[v, v'] w fun e w' => e = .returned (.bool true) ∧ Below w.heap.size w w' := by
  by_cases hL : Xl = []
  · subst hL
    obtain ⟨a, cap, rfl⟩ := hv.form
    obtain ⟨a', cap', rfl⟩ := hv'.form
    clear hv hv'
    go_enter Try.func86, Try.ntmps86
    go_wp2
    go_loop [5] (fun i => i = .int .i64 0) (fun _ => 0)
    case atStart => rfl
    case round =>
      subst hrel
      go_wp2
      go_ret
      exact ⟨rfl, Below.refl _ _⟩
  · obtain ⟨b, off, cap, rfl, hm, hbw, _, hc⟩ := hv.full hL
    obtain ⟨b', off', cap', rfl, _, hbw', _, hc'⟩ := hv'.full hL
    clear hv hv'
    unfold maxLen at hm
    go_enter Try.func86, Try.ntmps86
    go_wp2
    go_loopw [5] (fun i wr => ∃ k : Nat, i = .int .i64 k ∧ k ≤ Xl.length ∧ Below w.heap.size w wr) (fun i _ => Xl.length - (intOf i).toNat)
    case atStart => exact ⟨0, rfl, by omega, Below.refl _ _⟩
    case round =>
      obtain ⟨k, rfl, hk, hb⟩ := hrel
      by_cases hlt : k < Xl.length
      · obtain ⟨hs, vv0, vv1, hc, hv0, hv1⟩ := hc k hlt
        obtain ⟨ht, vv0', vv1', hd, hw0, hw1⟩ := hc' k hlt
        have HV0 := hide (hv0.below hb)
        have HW0 := hide (hw0.below hb)
        have HV1 := hide (hv1.below hb)
        have HW1 := hide (hw1.below hb)
        obtain ⟨a0, k0, rfl⟩ := hv0.at.form'
        obtain ⟨a1, k1, rfl⟩ := hv1.at.form'
        obtain ⟨e0, g0, rfl⟩ := hw0.at.form'
        obtain ⟨e1, g1, rfl⟩ := hw1.at.form'
        obtain ⟨c0, c1, c2, c3, c4, c5, c6⟩ := hc.below hb hbw
        obtain ⟨d0, d1, d2, d3, d4, d5, d6⟩ := hd.below hb hbw'
        clear hc hd hv0 hv1 hw0 hw1 hs ht
        have HB := hide hb
        clear hb
        go_wp2
        go_region_with (go_at_call 114; refine (eqOb_same lo lo' _ _ _ _ _ _ (HV0.out.below ((Below.refl _ _).drew)) (HV1.out.below ((Below.refl _ _).drew)) (HW0.out.below ((Below.refl _ _).drew)) (HW1.out.below ((Below.refl _ _).drew))).mono ?_; rintro e w1 ⟨rfl, hb1⟩; have hB : Hid (Below w.heap.size w w1) := (HB.out.drew).trans (hb1.mono HB.out.size); clear hb1)
        all_goals go_wp2
        all_goals go_roundw
        all_goals first
          | (case rel => exact ⟨k + 1, by go_num, by omega, hB.out⟩)
          | (case measure => simp [intOf]; omega)
      · go_wp2
        go_ret
        exact ⟨rfl, hb⟩

theorem Try.info128 : (Try.prog.info? 128).map (fun i => (i.zero, i.size, i.bytes)) = some (some (.agg #[.string ⟨#[]⟩, .string ⟨#[]⟩, .string ⟨#[]⟩, .slice none 0 0, .bool false, .slice none 0 0, .int .i64 0]), 7, 112) := by kernel_rfl
def ObsFill (wr : World) (B : Nat) (Xl : List Ob) (k : Nat) : Prop :=
  ∃ f, wr.rowIs B 128 (Xl.length * 7) f ∧ ∀ i (h : i < Xl.length), i < k → ObSize Xl[i] ∧ ∃ vv0 vv1, f (i * 7) = .string Xl[i].kd ∧ f (i * 7 + 1) = .string Xl[i].nm ∧ f (i * 7 + 2) = .string Xl[i].tm ∧ f (i * 7 + 3) = vv0 ∧ f (i * 7 + 4) = .bool Xl[i].en ∧ f (i * 7 + 5) = vv1 ∧ f (i * 7 + 6) = .int .i64 Xl[i].ver ∧ StrsIn (B + 1) wr vv0 Xl[i].vs ∧ StrsIn (B + 1) wr vv1 Xl[i].hs
theorem ObsFill.below {wr w1 : World} {B : Nat} {Xl : List Ob} {k : Nat} (h : ObsFill wr B Xl k) (hb : Below wr.heap.size wr w1) : ObsFill w1 B Xl k := by
  obtain ⟨f, hr, hall⟩ := h
  refine ⟨f, hr.of_block (hb.block B hr.lt), fun i hi hik => ?_⟩
  obtain ⟨hz, vv0, vv1, h0, h1, h2, h3, h4, h5, h6, hv0, hv1⟩ := hall i hi hik
  exact ⟨hz, vv0, vv1, h0, h1, h2, h3, h4, h5, h6, hv0.below hb, hv1.below hb⟩
theorem ObsFill.free {wr : World} {B : Nat} {Xl : List Ob} {k : Nat} (h : ObsFill wr B Xl k) (i : Nat) : wr.frozen? ⟨B, i, none⟩ = false := by
  obtain ⟨f, hr, _⟩ := h
  exact hr.frozen i
theorem ObsFill.there {wr : World} {B : Nat} {Xl : List Ob} {k : Nat} (h : ObsFill wr B Xl k) (i : Nat) (hi : i < Xl.length * 7) : ∃ v, wr.cell? ⟨B, i, none⟩ = some v := by
  obtain ⟨f, hr, _⟩ := h
  exact ⟨_, hr.cell hi⟩
theorem ObsFill.step {w1 : World} {B : Nat} {Xl : List Ob} {k : Nat} {vv0 vv1 : Value} (h : ObsFill w1 B Xl k) (hk : k < Xl.length) (hz : ObSize Xl[k]) (hv0 : StrsIn (B + 1) w1 vv0 Xl[k].vs) (hv1 : StrsIn (B + 1) w1 vv1 Xl[k].hs) :
    ObsFill (((((((w1.setCell ⟨B, k * 7, none⟩ (.string Xl[k].kd)).setCell ⟨B, k * 7 + 1, none⟩ (.string Xl[k].nm)).setCell ⟨B, k * 7 + 2, none⟩ (.string Xl[k].tm)).setCell ⟨B, k * 7 + 3, none⟩ vv0).setCell ⟨B, k * 7 + 4, none⟩ (.bool Xl[k].en)).setCell ⟨B, k * 7 + 5, none⟩ vv1).setCell ⟨B, k * 7 + 6, none⟩ (.int .i64 Xl[k].ver)) B Xl (k + 1) := by
  obtain ⟨f, hr, hall⟩ := h
  refine ⟨_, (((((((hr.set _ _).set _ _).set _ _).set _ _).set _ _).set _ _).set _ _), fun i hi hik => ?_⟩
  by_cases e : i = k
  · subst e
    refine ⟨hz, vv0, vv1, by simp, by simp, by simp, by simp, by simp, by simp, by simp, ?_, ?_⟩
    · repeat (refine StrsIn.setCell ?_ (by simp only []; omega) _)
      exact hv0
    · repeat (refine StrsIn.setCell ?_ (by simp only []; omega) _)
      exact hv1
  · obtain ⟨hz', vv0', vv1', h0, h1, h2, h3, h4, h5, h6, hv0', hv1'⟩ := hall i hi (by omega)
    refine ⟨hz', vv0', vv1', ?_, ?_, ?_, ?_, ?_, ?_, ?_, ?_, ?_⟩
    · rw [if_neg (by omega), if_neg (by omega), if_neg (by omega), if_neg (by omega), if_neg (by omega), if_neg (by omega), if_neg (by omega)]; exact h0
    · rw [if_neg (by omega), if_neg (by omega), if_neg (by omega), if_neg (by omega), if_neg (by omega), if_neg (by omega), if_neg (by omega)]; exact h1
    · rw [if_neg (by omega), if_neg (by omega), if_neg (by omega), if_neg (by omega), if_neg (by omega), if_neg (by omega), if_neg (by omega)]; exact h2
    · rw [if_neg (by omega), if_neg (by omega), if_neg (by omega), if_neg (by omega), if_neg (by omega), if_neg (by omega), if_neg (by omega)]; exact h3
    · rw [if_neg (by omega), if_neg (by omega), if_neg (by omega), if_neg (by omega), if_neg (by omega), if_neg (by omega), if_neg (by omega)]; exact h4
    · rw [if_neg (by omega), if_neg (by omega), if_neg (by omega), if_neg (by omega), if_neg (by omega), if_neg (by omega), if_neg (by omega)]; exact h5
    · rw [if_neg (by omega), if_neg (by omega), if_neg (by omega), if_neg (by omega), if_neg (by omega), if_neg (by omega), if_neg (by omega)]; exact h6
    · repeat (refine StrsIn.setCell ?_ (by simp only []; omega) _)
      exact hv0'
    · repeat (refine StrsIn.setCell ?_ (by simp only []; omega) _)
      exact hv1'
theorem ObsFill.done {wr : World} {B : Nat} {Xl : List Ob} {k : Nat} (h : ObsFill wr B Xl k) (hk : Xl.length ≤ k) (hne : Xl ≠ []) (hm : Xl.length ≤ maxLen) : ObsAt B wr (.slice (some ⟨B, 0, none⟩) Xl.length Xl.length) Xl := by
  obtain ⟨f, hr, hall⟩ := h
  refine Or.inr ⟨B, 0, Xl.length, rfl, hne, hm, hr.lt, Nat.le_refl _, Nat.le_refl _, fun i hi => ?_⟩
  obtain ⟨hz, vv0, vv1, h0, h1, h2, h3, h4, h5, h6, hv0, hv1⟩ := hall i hi (by omega)
  rw [Nat.zero_add]
  exact ⟨hz, vv0, vv1, ⟨by rw [hr.cell (by omega), h0], by rw [hr.cell (by omega), h1], by rw [hr.cell (by omega), h2], by rw [hr.cell (by omega), h3], by rw [hr.cell (by omega), h4], by rw [hr.cell (by omega), h5], by rw [hr.cell (by omega), h6]⟩, hv0.mono (by omega), hv1.mono (by omega)⟩
theorem ObsFill.new (w : World) (Xl : List Ob) (z : Array Value) : ObsFill (w.alloc (.cells (madeCells z (Xl.length * 7)) 128)) w.heap.size Xl 0 := by
  refine ⟨fun i => (madeCells z (Xl.length * 7)).getD i default, ?_, fun i _ h => by omega⟩
  have := World.rowIs_alloc w (madeCells z (Xl.length * 7)) 128 (fun i => (madeCells z (Xl.length * 7)).getD i default) (fun i hi => by simp [Array.getD, hi])
  rwa [size_madeCells] at this

end Go.Proofs.Ytmaagbnjpdijnaa

