import Derived.Test.YtdeammfdkaomlaaGreatV08
import Derived.WalkKit
import Derived.WalkSpells
import Derived.WalkLawsBesides
import Derived.Deep.QuietTactic
import Derived.BigQuiet
import Derived.Deep.OwnRows
import Derived.Deep.RegionWith
import Derived.Deep.RegionHeld3
namespace Go.Proofs.YtdeammfdkaomlaaGreat
open Go.RowKit Go.Deep

structure Ob where
  kd : ByteArray
  nm : ByteArray
  tm : ByteArray
  vs : List ByteArray
  en : Bool
  hs : List ByteArray
  ver : Int
structure ObSize (x : Ob) : Prop where
  s0 : x.kd.size ≤ maxLen
  s1 : x.nm.size ≤ maxLen
  s2 : x.tm.size ≤ maxLen
structure ObCells (w : World) (b o : Nat) (x : Ob) (vv0 vv1 : Value) : Prop where
  c0 : w.cell? ⟨b, o, none⟩ = some (.string x.kd)
  c1 : w.cell? ⟨b, o + 1, none⟩ = some (.string x.nm)
  c2 : w.cell? ⟨b, o + 2, none⟩ = some (.string x.tm)
  c3 : w.cell? ⟨b, o + 3, none⟩ = some vv0
  c4 : w.cell? ⟨b, o + 4, none⟩ = some (.bool x.en)
  c5 : w.cell? ⟨b, o + 5, none⟩ = some vv1
  c6 : w.cell? ⟨b, o + 6, none⟩ = some (.int .i64 x.ver)
theorem ObCells.below {w w' : World} {b o : Nat} {x : Ob} {vv0 vv1 : Value} (h : ObCells w b o x vv0 vv1) {m : Nat} (hb : Below m w w') (hlt : b < m) : ObCells w' b o x vv0 vv1 := by
  have e : ∀ o, w'.cell? ⟨b, o, none⟩ = w.cell? ⟨b, o, none⟩ := fun o => hb.cell (p := ⟨b, o, none⟩) hlt
  exact ⟨by rw [e]; exact h.c0, by rw [e]; exact h.c1, by rw [e]; exact h.c2, by rw [e]; exact h.c3, by rw [e]; exact h.c4, by rw [e]; exact h.c5, by rw [e]; exact h.c6⟩
theorem ObCells.set {w : World} {b o : Nat} {x : Ob} {vv0 vv1 : Value} (h : ObCells w b o x vv0 vv1) {p : Addr} (hp : b ≠ p.block) (u : Value) : ObCells (w.setCell p u) b o x vv0 vv1 := by
  have e : ∀ o, (w.setCell p u).cell? ⟨b, o, none⟩ = w.cell? ⟨b, o, none⟩ := fun o => cell_setCell_ne _ _ _ _ hp
  exact ⟨by rw [e]; exact h.c0, by rw [e]; exact h.c1, by rw [e]; exact h.c2, by rw [e]; exact h.c3, by rw [e]; exact h.c4, by rw [e]; exact h.c5, by rw [e]; exact h.c6⟩
def ObsAt (lo : Nat) (w : World) (v : Value) (Xl : List Ob) : Prop :=
  (∃ (a : Option Addr) (cap : Nat), v = .slice a 0 cap ∧ Xl = []) ∨
  ∃ (b off cap : Nat), v = .slice (some ⟨b, off, none⟩) Xl.length cap ∧ Xl ≠ [] ∧ Xl.length ≤ maxLen ∧ b < w.heap.size ∧ lo ≤ b ∧ Xl.length ≤ cap ∧
    ∀ i (h : i < Xl.length), ObSize Xl[i] ∧ ∃ vv0 vv1, ObCells w b (off + i * 7) Xl[i] vv0 vv1 ∧ StrsIn lo w vv0 Xl[i].vs ∧ StrsIn lo w vv1 Xl[i].hs
theorem ObsAt.below {lo : Nat} {w w' : World} {v : Value} {Xl : List Ob} (h : ObsAt lo w v Xl) (hb : Below w.heap.size w w') : ObsAt lo w' v Xl := by
  rcases h with h | ⟨b, off, cap, h1, h2, h3, h4, h5, h6, h7⟩
  · exact Or.inl h
  · refine Or.inr ⟨b, off, cap, h1, h2, h3, Nat.lt_of_lt_of_le h4 hb.size, h5, h6, fun i hi => ?_⟩
    obtain ⟨hs, vv0, vv1, hc, hv0, hv1⟩ := h7 i hi
    exact ⟨hs, vv0, vv1, hc.below hb h4, hv0.below hb, hv1.below hb⟩
theorem ObsAt.mono {lo lo' : Nat} {w : World} {v : Value} {Xl : List Ob} (h : ObsAt lo w v Xl) (hl : lo' ≤ lo) : ObsAt lo' w v Xl := by
  rcases h with h | ⟨b, off, cap, h1, h2, h3, h4, h5, h6, h7⟩
  · exact Or.inl h
  · refine Or.inr ⟨b, off, cap, h1, h2, h3, h4, Nat.le_trans hl h5, h6, fun i hi => ?_⟩
    obtain ⟨hs, vv0, vv1, hc, hv0, hv1⟩ := h7 i hi
    exact ⟨hs, vv0, vv1, hc, hv0.mono hl, hv1.mono hl⟩
theorem ObsAt.set {lo : Nat} {w : World} {v : Value} {Xl : List Ob} (h : ObsAt lo w v Xl) {p : Addr} (hp : p.block < lo) (u : Value) : ObsAt lo (w.setCell p u) v Xl := by
  rcases h with h | ⟨b, off, cap, h1, h2, h3, h4, h5, h6, h7⟩
  · exact Or.inl h
  · refine Or.inr ⟨b, off, cap, h1, h2, h3, by simpa [World.setCell] using h4, h5, h6, fun i hi => ?_⟩
    obtain ⟨hs, vv0, vv1, hc, hv0, hv1⟩ := h7 i hi
    exact ⟨hs, vv0, vv1, hc.set (by omega) u, hv0.setCell hp u, hv1.setCell hp u⟩
theorem ObsAt.form {lo : Nat} {w : World} {v : Value} {Xl : List Ob} (h : ObsAt lo w v Xl) : ∃ a cap, v = .slice a Xl.length cap := by
  rcases h with ⟨a, cap, h, rfl⟩ | ⟨b, off, cap, h, _⟩
  · exact ⟨a, cap, h⟩
  · exact ⟨_, cap, h⟩
theorem ObsAt.max {lo : Nat} {w : World} {v : Value} {Xl : List Ob} (h : ObsAt lo w v Xl) : Xl.length ≤ maxLen := by
  rcases h with ⟨a, cap, h, rfl⟩ | ⟨b, off, cap, h, _, h3, _⟩
  · exact Nat.zero_le _
  · exact h3
theorem ObsAt.full {lo : Nat} {w : World} {v : Value} {Xl : List Ob} (h : ObsAt lo w v Xl) (hne : Xl ≠ []) : ∃ (b off cap : Nat), v = .slice (some ⟨b, off, none⟩) Xl.length cap ∧ Xl.length ≤ maxLen ∧ b < w.heap.size ∧ Xl.length ≤ cap ∧
    ∀ i (h : i < Xl.length), ObSize Xl[i] ∧ ∃ vv0 vv1, ObCells w b (off + i * 7) Xl[i] vv0 vv1 ∧ StrsIn lo w vv0 Xl[i].vs ∧ StrsIn lo w vv1 Xl[i].hs := by
  rcases h with ⟨_, _, _, h⟩ | ⟨b, off, cap, h1, _, h3, h4, _, h6, h7⟩
  · exact absurd h hne
  · exact ⟨b, off, cap, h1, h3, h4, h6, h7⟩
theorem ObsAt.full' {lo : Nat} {w : World} {a : Option Addr} {n cap : Nat} {Xl : List Ob} (h : ObsAt lo w (.slice a n cap) Xl) (hL : 0 < Xl.length) :
    ∃ b off, a = some ⟨b, off, none⟩ ∧ b < w.heap.size ∧ lo ≤ b ∧ ∀ i (h : i < Xl.length), ObSize Xl[i] ∧ ∃ vv0 vv1, ObCells w b (off + i * 7) Xl[i] vv0 vv1 ∧ StrsIn lo w vv0 Xl[i].vs ∧ StrsIn lo w vv1 Xl[i].hs := by
  rcases h with ⟨a', cap', h, rfl⟩ | ⟨b', off', cap', h1, h2, h3, h4, h5, h6, h7⟩
  · simp at hL
  · injection h1 with e1 e2 e3
    exact ⟨b', off', e1, h4, h5, h7⟩
end Go.Proofs.YtdeammfdkaomlaaGreat
namespace Go.Proofs.YtdeammfdkaomlaaGreat
open Go.RowKit Go.Deep

def RtSize (x : ByteArray) : Prop := x.size ≤ maxLen
def RtsAt (lo : Nat) (w : World) (v : Value) (Xl : List ByteArray) : Prop :=
  (∃ (a : Option Addr) (cap : Nat), v = .slice a 0 cap ∧ Xl = []) ∨
  ∃ (b off cap : Nat), v = .slice (some ⟨b, off, none⟩) Xl.length cap ∧ Xl ≠ [] ∧ Xl.length ≤ maxLen ∧ b < w.heap.size ∧ lo ≤ b ∧ Xl.length ≤ cap ∧
    ∀ i (h : i < Xl.length), RtSize Xl[i] ∧ w.cell? ⟨b, off + i, none⟩ = some (.string Xl[i])
theorem RtsAt.below {lo : Nat} {w w' : World} {v : Value} {Xl : List ByteArray} (h : RtsAt lo w v Xl) (hb : Below w.heap.size w w') : RtsAt lo w' v Xl := by
  rcases h with h | ⟨b, off, cap, h1, h2, h3, h4, h5, h6, h7⟩
  · exact Or.inl h
  · refine Or.inr ⟨b, off, cap, h1, h2, h3, Nat.lt_of_lt_of_le h4 hb.size, h5, h6, fun i hi => ⟨(h7 i hi).1, ?_⟩⟩
    rw [hb.cell (p := ⟨b, _, none⟩) h4]
    exact (h7 i hi).2
theorem RtsAt.mono {lo lo' : Nat} {w : World} {v : Value} {Xl : List ByteArray} (h : RtsAt lo w v Xl) (hl : lo' ≤ lo) : RtsAt lo' w v Xl := by
  rcases h with h | ⟨b, off, cap, h1, h2, h3, h4, h5, h6, h7⟩
  · exact Or.inl h
  · exact Or.inr ⟨b, off, cap, h1, h2, h3, h4, Nat.le_trans hl h5, h6, h7⟩
theorem RtsAt.set {lo : Nat} {w : World} {v : Value} {Xl : List ByteArray} (h : RtsAt lo w v Xl) {p : Addr} (hp : p.block < lo) (u : Value) : RtsAt lo (w.setCell p u) v Xl := by
  rcases h with h | ⟨b, off, cap, h1, h2, h3, h4, h5, h6, h7⟩
  · exact Or.inl h
  · refine Or.inr ⟨b, off, cap, h1, h2, h3, by simpa [World.setCell] using h4, h5, h6, fun i hi => ⟨(h7 i hi).1, ?_⟩⟩
    rw [cell_setCell_ne _ _ _ _ (by show b ≠ p.block; omega)]
    exact (h7 i hi).2
theorem RtsAt.form {lo : Nat} {w : World} {v : Value} {Xl : List ByteArray} (h : RtsAt lo w v Xl) : ∃ a cap, v = .slice a Xl.length cap := by
  rcases h with ⟨a, cap, h, rfl⟩ | ⟨b, off, cap, h, _⟩
  · exact ⟨a, cap, h⟩
  · exact ⟨_, cap, h⟩
theorem RtsAt.max {lo : Nat} {w : World} {v : Value} {Xl : List ByteArray} (h : RtsAt lo w v Xl) : Xl.length ≤ maxLen := by
  rcases h with ⟨a, cap, h, rfl⟩ | ⟨b, off, cap, h, _, h3, _⟩
  · exact Nat.zero_le _
  · exact h3
theorem RtsAt.full {lo : Nat} {w : World} {v : Value} {Xl : List ByteArray} (h : RtsAt lo w v Xl) (hne : Xl ≠ []) : ∃ (b off cap : Nat), v = .slice (some ⟨b, off, none⟩) Xl.length cap ∧ Xl.length ≤ maxLen ∧ b < w.heap.size ∧ Xl.length ≤ cap ∧
    ∀ i (h : i < Xl.length), RtSize Xl[i] ∧ w.cell? ⟨b, off + i, none⟩ = some (.string Xl[i]) := by
  rcases h with ⟨_, _, _, h⟩ | ⟨b, off, cap, h1, _, h3, h4, _, h6, h7⟩
  · exact absurd h hne
  · exact ⟨b, off, cap, h1, h3, h4, h6, h7⟩
theorem RtsAt.full' {lo : Nat} {w : World} {a : Option Addr} {n cap : Nat} {Xl : List ByteArray} (h : RtsAt lo w (.slice a n cap) Xl) (hL : 0 < Xl.length) :
    ∃ b off, a = some ⟨b, off, none⟩ ∧ b < w.heap.size ∧ lo ≤ b ∧ ∀ i (h : i < Xl.length), RtSize Xl[i] ∧ w.cell? ⟨b, off + i, none⟩ = some (.string Xl[i]) := by
  rcases h with ⟨a', cap', h, rfl⟩ | ⟨b', off', cap', h1, h2, h3, h4, h5, h6, h7⟩
  · simp at hL
  · injection h1 with e1 e2 e3
    exact ⟨b', off', e1, h4, h5, h7⟩
set_option maxHeartbeats 1000000 in
theorem eqRts_same (lo lo' : Nat) (v v' : Value) (Xl : List ByteArray) (w : World) (hv : RtsAt lo w v Xl) (hv' : RtsAt lo' w v' Xl) :
    Calls Tryz.prog 74 #[v, v'] w fun e w' => e = .returned (.bool true) ∧ Below w.heap.size w w' := by
  by_cases hL : Xl = []
  · subst hL
    obtain ⟨a, cap, rfl⟩ := hv.form
    obtain ⟨a', cap', rfl⟩ := hv'.form
    clear hv hv'
    go_enter Tryz.func74, Tryz.ntmps74
    go_wp2
    go_loop [5] (fun i => i = .int .i64 0) (fun _ => 0)
    case atStart => rfl
    case round =>
      subst hrel
      go_wp2
      go_ret
      exact ⟨rfl, Below.refl _ _⟩
  · obtain ⟨b, off, cap, rfl, hm, hbw, _, hc⟩ := hv.full hL
    obtain ⟨b', off', cap', rfl, _, hbw', _, hc'⟩ := hv'.full hL
    clear hv hv'
    unfold maxLen at hm
    go_enter Tryz.func74, Tryz.ntmps74
    go_wp2
    go_loopw [5] (fun i wr => ∃ k : Nat, i = .int .i64 k ∧ k ≤ Xl.length ∧ Below w.heap.size w wr) (fun i _ => Xl.length - (intOf i).toNat)
    case atStart => exact ⟨0, rfl, by omega, Below.refl _ _⟩
    case round =>
      obtain ⟨k, rfl, hk, hb⟩ := hrel
      by_cases hlt : k < Xl.length
      · have c0 : wr.cell? ⟨b, off + k, none⟩ = some (.string Xl[k]) := by rw [hb.cell (p := ⟨b, _, none⟩) hbw]; exact (hc k hlt).2
        have d0 : wr.cell? ⟨b', off' + k, none⟩ = some (.string Xl[k]) := by rw [hb.cell (p := ⟨b', _, none⟩) hbw']; exact (hc' k hlt).2
        have HB := hide hb
        clear hb
        go_wp2
        try go_quiet (fail)
        try go_wp2
        go_roundw
        case rel => exact ⟨k + 1, by go_num, by omega, by first | exact HB.out | exact below_drewN HB.out _⟩
        case measure => simp [intOf]; omega
      · go_wp2
        go_ret
        exact ⟨rfl, hb⟩

def RtsFill (wr : World) (B : Nat) (Xl : List ByteArray) (k : Nat) : Prop := ∃ f, wr.rowIs B 9 Xl.length f ∧ ∀ i (h : i < Xl.length), i < k → RtSize Xl[i] ∧ f i = .string Xl[i]
theorem RtsFill.there {wr : World} {B : Nat} {Xl : List ByteArray} {k : Nat} (h : RtsFill wr B Xl k) (i : Nat) (hi : i < Xl.length) : ∃ v, wr.cell? ⟨B, i, none⟩ = some v := by
  obtain ⟨f, hr, _⟩ := h
  exact ⟨_, hr.cell hi⟩
theorem RtsFill.free {wr : World} {B : Nat} {Xl : List ByteArray} {k : Nat} (h : RtsFill wr B Xl k) (i : Nat) : wr.frozen? ⟨B, i, none⟩ = false := by
  obtain ⟨f, hr, _⟩ := h
  exact hr.frozen i

end Go.Proofs.YtdeammfdkaomlaaGreat
