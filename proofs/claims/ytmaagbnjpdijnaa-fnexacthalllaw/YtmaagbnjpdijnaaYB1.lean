import Derived.Test.YtmaagbnjpdijnaaYA2
import Derived.Deep.RegionWith
import Derived.Test.YtmaagbnjpdijnaaYA1
namespace Go.Proofs.Ytmaagbnjpdijnaa
open Go.RowKit Go.Deep

/-- a field -/
structure Fd where
  nm : ByteArray
  kd : Int
  le : Int
  mo : Int
  words : List ByteArray
  to : ByteArray
  ro : Int
  mu : Bool
  fx : Bool
  df : ByteArray
  we : ByteArray

/-- THE ELEVEN CELLS OF A FIELD, from place o of block b on. -/
structure FdCells (w : World) (b o : Nat) (f : Fd) (wv : Value) : Prop where
  c0 : w.cell? ⟨b, o, none⟩ = some (.string f.nm)
  c1 : w.cell? ⟨b, o + 1, none⟩ = some (.int .i64 f.kd)
  c2 : w.cell? ⟨b, o + 2, none⟩ = some (.int .i64 f.le)
  c3 : w.cell? ⟨b, o + 3, none⟩ = some (.int .i64 f.mo)
  c4 : w.cell? ⟨b, o + 4, none⟩ = some wv
  c5 : w.cell? ⟨b, o + 5, none⟩ = some (.string f.to)
  c6 : w.cell? ⟨b, o + 6, none⟩ = some (.int .i64 f.ro)
  c7 : w.cell? ⟨b, o + 7, none⟩ = some (.bool f.mu)
  c8 : w.cell? ⟨b, o + 8, none⟩ = some (.bool f.fx)
  c9 : w.cell? ⟨b, o + 9, none⟩ = some (.string f.df)
  c10 : w.cell? ⟨b, o + 10, none⟩ = some (.string f.we)

structure FdSize (f : Fd) : Prop where
  s0 : f.nm.size ≤ maxLen
  s5 : f.to.size ≤ maxLen
  s9 : f.df.size ≤ maxLen
  s10 : f.we.size ≤ maxLen

theorem FdCells.below {w w' : World} {b o : Nat} {f : Fd} {wv : Value} (h : FdCells w b o f wv) (hb : Below w.heap.size w w') (hlt : b < w.heap.size) : FdCells w' b o f wv := by
  have e : ∀ o, w'.cell? ⟨b, o, none⟩ = w.cell? ⟨b, o, none⟩ := fun o => hb.cell (p := ⟨b, o, none⟩) hlt
  exact ⟨by rw [e]; exact h.c0, by rw [e]; exact h.c1, by rw [e]; exact h.c2, by rw [e]; exact h.c3, by rw [e]; exact h.c4, by rw [e]; exact h.c5, by rw [e]; exact h.c6, by rw [e]; exact h.c7, by rw [e]; exact h.c8, by rw [e]; exact h.c9, by rw [e]; exact h.c10⟩

/-- A []GateField THAT HOLDS Fs; its cells lie from block lo on. -/
def FdsAt (lo : Nat) (w : World) (v : Value) (Fs : List Fd) : Prop :=
  (∃ (a : Option Addr) (cap : Nat), v = .slice a 0 cap ∧ Fs = []) ∨
  ∃ (b off cap : Nat), v = .slice (some ⟨b, off, none⟩) Fs.length cap ∧ Fs ≠ [] ∧ Fs.length ≤ maxLen ∧ b < w.heap.size ∧ lo ≤ b ∧ Fs.length ≤ cap ∧
    ∀ i (h : i < Fs.length), FdSize Fs[i] ∧ ∃ wv, FdCells w b (off + i * 11) Fs[i] wv ∧ StrsIn lo w wv Fs[i].words

theorem FdsAt.below {lo : Nat} {w w' : World} {v : Value} {Fs : List Fd} (h : FdsAt lo w v Fs) (hb : Below w.heap.size w w') : FdsAt lo w' v Fs := by
  rcases h with h | ⟨b, off, cap, h1, h2, h3, h4, h5, h6, h7⟩
  · exact Or.inl h
  · refine Or.inr ⟨b, off, cap, h1, h2, h3, Nat.lt_of_lt_of_le h4 hb.size, h5, h6, fun i hi => ?_⟩
    obtain ⟨hs, wv, hc, hw⟩ := h7 i hi
    exact ⟨hs, wv, hc.below hb h4, hw.below hb⟩
theorem FdsAt.mono {lo lo' : Nat} {w : World} {v : Value} {Fs : List Fd} (h : FdsAt lo w v Fs) (hl : lo' ≤ lo) : FdsAt lo' w v Fs := by
  rcases h with h | ⟨b, off, cap, h1, h2, h3, h4, h5, h6, h7⟩
  · exact Or.inl h
  · refine Or.inr ⟨b, off, cap, h1, h2, h3, h4, Nat.le_trans hl h5, h6, fun i hi => ?_⟩
    obtain ⟨hs, wv, hc, hw⟩ := h7 i hi
    exact ⟨hs, wv, hc, hw.mono hl⟩
theorem FdsAt.form {lo : Nat} {w : World} {v : Value} {Fs : List Fd} (h : FdsAt lo w v Fs) : ∃ a cap, v = .slice a Fs.length cap := by
  rcases h with ⟨a, cap, h, rfl⟩ | ⟨b, off, cap, h, _⟩
  · exact ⟨a, cap, h⟩
  · exact ⟨_, cap, h⟩

def FdsSmall (Fs : List Fd) : Prop := Fs.length ≤ 1048576 ∧ ∀ i (h : i < Fs.length), Fs[i].words.length ≤ 1048576
/-- a shape -/
structure Sh where
  kind : ByteArray
  fields : List Fd

/-- A []GateShape THAT HOLDS Ss; its cells lie from block lo on. -/
def ShsAt (lo : Nat) (w : World) (v : Value) (Ss : List Sh) : Prop :=
  (∃ (a : Option Addr) (cap : Nat), v = .slice a 0 cap ∧ Ss = []) ∨
  ∃ (b off cap : Nat), v = .slice (some ⟨b, off, none⟩) Ss.length cap ∧ Ss ≠ [] ∧ Ss.length ≤ maxLen ∧ b < w.heap.size ∧ lo ≤ b ∧
    ∀ i (h : i < Ss.length), Ss[i].kind.size ≤ maxLen ∧ ∃ fv, w.cell? ⟨b, off + i * 2, none⟩ = some (.string Ss[i].kind) ∧ w.cell? ⟨b, off + i * 2 + 1, none⟩ = some fv ∧ FdsAt lo w fv Ss[i].fields

theorem ShsAt.below {lo : Nat} {w w' : World} {v : Value} {Ss : List Sh} (h : ShsAt lo w v Ss) (hb : Below w.heap.size w w') : ShsAt lo w' v Ss := by
  rcases h with h | ⟨b, off, cap, h1, h2, h3, h4, h5, h7⟩
  · exact Or.inl h
  · refine Or.inr ⟨b, off, cap, h1, h2, h3, Nat.lt_of_lt_of_le h4 hb.size, h5, fun i hi => ?_⟩
    obtain ⟨hs, fv, hc, hc', hw⟩ := h7 i hi
    exact ⟨hs, fv, by rw [hb.cell (p := ⟨b, _, none⟩) h4]; exact hc, by rw [hb.cell (p := ⟨b, _, none⟩) h4]; exact hc', hw.below hb⟩
theorem ShsAt.mono {lo lo' : Nat} {w : World} {v : Value} {Ss : List Sh} (h : ShsAt lo w v Ss) (hl : lo' ≤ lo) : ShsAt lo' w v Ss := by
  rcases h with h | ⟨b, off, cap, h1, h2, h3, h4, h5, h7⟩
  · exact Or.inl h
  · refine Or.inr ⟨b, off, cap, h1, h2, h3, h4, Nat.le_trans hl h5, fun i hi => ?_⟩
    obtain ⟨hs, fv, hc, hc', hw⟩ := h7 i hi
    exact ⟨hs, fv, hc, hc', hw.mono hl⟩
theorem ShsAt.form {lo : Nat} {w : World} {v : Value} {Ss : List Sh} (h : ShsAt lo w v Ss) : ∃ a cap, v = .slice a Ss.length cap := by
  rcases h with ⟨a, cap, h, rfl⟩ | ⟨b, off, cap, h, _⟩
  · exact ⟨a, cap, h⟩
  · exact ⟨_, cap, h⟩

def ShsSmall (Ss : List Sh) : Prop := Ss.length ≤ 1048576 ∧ ∀ i (h : i < Ss.length), FdsSmall Ss[i].fields
end Go.Proofs.Ytmaagbnjpdijnaa

namespace Go.Proofs.Ytmaagbnjpdijnaa
open Go.RowKit Go.Deep

theorem nil_form {lo : Nat} {w : World} {v : Value} (h : FdsAt lo w v []) : ∃ a cap, v = .slice a 0 cap := h.form
theorem FdsAt.full {lo : Nat} {w : World} {v : Value} {Fs : List Fd} (h : FdsAt lo w v Fs) (hne : Fs ≠ []) : ∃ (b off cap : Nat), v = .slice (some ⟨b, off, none⟩) Fs.length cap ∧ Fs.length ≤ maxLen ∧ b < w.heap.size ∧ Fs.length ≤ cap ∧
    ∀ i (h : i < Fs.length), FdSize Fs[i] ∧ ∃ wv, FdCells w b (off + i * 11) Fs[i] wv ∧ StrsIn lo w wv Fs[i].words := by
  rcases h with ⟨_, _, _, h⟩ | ⟨b, off, cap, h1, _, h3, h4, _, h6, h7⟩
  · exact absurd h hne
  · exact ⟨b, off, cap, h1, h3, h4, h6, h7⟩
theorem ShsAt.full {lo : Nat} {w : World} {v : Value} {Ss : List Sh} (h : ShsAt lo w v Ss) (hne : Ss ≠ []) : ∃ (b off cap : Nat), v = .slice (some ⟨b, off, none⟩) Ss.length cap ∧ Ss.length ≤ maxLen ∧ b < w.heap.size ∧
    ∀ i (h : i < Ss.length), Ss[i].kind.size ≤ maxLen ∧ ∃ fv, w.cell? ⟨b, off + i * 2, none⟩ = some (.string Ss[i].kind) ∧ w.cell? ⟨b, off + i * 2 + 1, none⟩ = some fv ∧ FdsAt lo w fv Ss[i].fields := by
  rcases h with ⟨_, _, _, h⟩ | ⟨b, off, cap, h1, _, h3, h4, _, h7⟩
  · exact absurd h hne
  · exact ⟨b, off, cap, h1, h3, h4, h7⟩

set_option maxHeartbeats 1000000 in
theorem eqFds_same (lo lo' : Nat) (v v' : Value) (Fs : List Fd) (w : World) (hv : FdsAt lo w v Fs) (hv' : FdsAt lo' w v' Fs) :
    Calls Try.prog 107 #[v, v'] w fun e w' => e = .returned (.bool true) ∧ Below w.heap.size w w' := by
  by_cases hL : Fs = []
  · subst hL
    obtain ⟨a, cap, rfl⟩ := nil_form hv
    obtain ⟨a', cap', rfl⟩ := nil_form hv'
    clear hv hv'
    go_enter Try.func107, Try.ntmps107
    go_wp2
    go_loop [5] (fun i => i = .int .i64 0) (fun _ => 0)
    case atStart => rfl
    case round =>
      subst hrel
      go_wp2
      go_ret
      exact ⟨rfl, Below.refl _ _⟩
  · obtain ⟨b, off, cap, rfl, hm, hbw, _, hc⟩ := hv.full hL
    obtain ⟨b', off', cap', rfl, _, hbw', _, hc'⟩ := hv'.full hL
    clear hv hv'
    unfold maxLen at hm
    go_enter Try.func107, Try.ntmps107
    go_wp2
    go_loopw [5] (fun i wr => ∃ k : Nat, i = .int .i64 k ∧ k ≤ Fs.length ∧ Below w.heap.size w wr) (fun i _ => Fs.length - (intOf i).toNat)
    case atStart => exact ⟨0, rfl, by omega, Below.refl _ _⟩
    case round =>
      obtain ⟨k, rfl, hk, hb⟩ := hrel
      by_cases hlt : k < Fs.length
      · obtain ⟨_, wv, hcell, hst⟩ := hc k hlt
        obtain ⟨_, wv', hcell', hst'⟩ := hc' k hlt
        have HST : Hid (StrsAt wr wv Fs[k].words) := hst.at.below hb
        have HST' : Hid (StrsAt wr wv' Fs[k].words) := hst'.at.below hb
        obtain ⟨a1, n1, cap1, rfl⟩ := hst.form
        obtain ⟨a2, n2, cap2, rfl⟩ := hst'.form
        clear hst hst'
        obtain ⟨c0, c1, c2, c3, c4, c5, c6, c7, c8, c9, c10⟩ := hcell.below hb hbw
        obtain ⟨d0, d1, d2, d3, d4, d5, d6, d7, d8, d9, d10⟩ := hcell'.below hb hbw'
        clear hcell hcell'
        have HB := hide hb
        clear hb
        go_wp2
        go_region_with (go_at_call 123; refine (eqField_same _ _ _ _ _ _ _ _ _ _ _ _ Fs[k].words _ (HST.out.below (Below.drew (Below.refl _ _))) (HST'.out.below (Below.drew (Below.refl _ _)))).mono ?_; rintro e w1 ⟨rfl, hb1⟩; have hB : Hid (Below w.heap.size w w1) := (HB.out.drew).trans (hb1.mono HB.out.size); clear hb1)
        all_goals
          go_wp2
          go_roundw
          case rel => exact ⟨k + 1, by go_num, by omega, hB.out⟩
          case measure => simp [intOf]; omega
      · go_wp2
        go_ret
        exact ⟨rfl, hb⟩

set_option maxHeartbeats 1000000 in
theorem eqShape_same (lo lo' : Nat) (kind : ByteArray) (v v' : Value) (Fs : List Fd) (w : World) (hv : FdsAt lo w v Fs) (hv' : FdsAt lo' w v' Fs) :
    Calls Try.prog 66 #[.agg #[.string kind, v], .agg #[.string kind, v']] w fun e w' => e = .returned (.bool true) ∧ Below w.heap.size w w' := by
  have HV := hide hv
  have HV' := hide hv'
  obtain ⟨a, cap, rfl⟩ := hv.form
  obtain ⟨a', cap', rfl⟩ := hv'.form
  clear hv hv'
  have HW : ∀ o o', Hid (Below w.heap.size w ((w.alloc o).alloc o')) := fun o o' => ((Below.refl _ _).alloc (Nat.le_refl _) _).alloc (by simp) _
  go_enter Try.func66, Try.ntmps66
  go_wp2_with fail
  refine (eqFds_same lo lo' _ _ Fs _ (HV.out.below (HW _ _).out) (HV'.out.below (HW _ _).out)).mono ?_
  rintro e w1 ⟨rfl, hb⟩
  have HB : Hid (Below w.heap.size w w1) := (HW _ _).out.trans (hb.mono (by simp; omega))
  clear hb
  go_wp2
  go_ret
  exact ⟨rfl, HB.out⟩

set_option maxHeartbeats 1000000 in
theorem eqShs_same (lo lo' : Nat) (v v' : Value) (Ss : List Sh) (w : World) (hv : ShsAt lo w v Ss) (hv' : ShsAt lo' w v' Ss) :
    Calls Try.prog 32 #[v, v'] w fun e w' => e = .returned (.bool true) ∧ Below w.heap.size w w' := by
  by_cases hL : Ss = []
  · subst hL
    obtain ⟨a, cap, rfl⟩ := hv.form
    obtain ⟨a', cap', rfl⟩ := hv'.form
    clear hv hv'
    go_enter Try.func32, Try.ntmps32
    go_wp2
    go_loop [5] (fun i => i = .int .i64 0) (fun _ => 0)
    case atStart => rfl
    case round =>
      subst hrel
      go_wp2
      go_ret
      exact ⟨rfl, Below.refl _ _⟩
  · obtain ⟨b, off, cap, rfl, hm, hbw, hc⟩ := hv.full hL
    obtain ⟨b', off', cap', rfl, _, hbw', hc'⟩ := hv'.full hL
    clear hv hv'
    unfold maxLen at hm
    go_enter Try.func32, Try.ntmps32
    go_wp2
    go_loopw [5] (fun i wr => ∃ k : Nat, i = .int .i64 k ∧ k ≤ Ss.length ∧ Below w.heap.size w wr) (fun i _ => Ss.length - (intOf i).toNat)
    case atStart => exact ⟨0, rfl, by omega, Below.refl _ _⟩
    case round =>
      obtain ⟨k, rfl, hk, hb⟩ := hrel
      by_cases hlt : k < Ss.length
      · obtain ⟨_, fv, c0, c1, hst⟩ := hc k hlt
        obtain ⟨_, fv', d0, d1, hst'⟩ := hc' k hlt
        have HST : Hid (FdsAt lo wr fv Ss[k].fields) := hst.below hb
        have HST' : Hid (FdsAt lo' wr fv' Ss[k].fields) := hst'.below hb
        obtain ⟨a1, cap1, rfl⟩ := hst.form
        obtain ⟨a2, cap2, rfl⟩ := hst'.form
        clear hst hst'
        have e0 : wr.cell? ⟨b, off + k * 2, none⟩ = some (.string Ss[k].kind) := by rw [hb.cell (p := ⟨b, _, none⟩) hbw]; exact c0
        have e1 : wr.cell? ⟨b, off + k * 2 + 1, none⟩ = some (.slice a1 Ss[k].fields.length cap1) := by rw [hb.cell (p := ⟨b, _, none⟩) hbw]; exact c1
        have g0 : wr.cell? ⟨b', off' + k * 2, none⟩ = some (.string Ss[k].kind) := by rw [hb.cell (p := ⟨b', _, none⟩) hbw']; exact d0
        have g1 : wr.cell? ⟨b', off' + k * 2 + 1, none⟩ = some (.slice a2 Ss[k].fields.length cap2) := by rw [hb.cell (p := ⟨b', _, none⟩) hbw']; exact d1
        clear c0 c1 d0 d1
        have HB := hide hb
        clear hb
        go_wp2
        go_region_with (go_at_call 66; refine (eqShape_same lo lo' _ _ _ Ss[k].fields _ (HST.out.below (Below.drew (Below.refl _ _))) (HST'.out.below (Below.drew (Below.refl _ _)))).mono ?_; rintro e w1 ⟨rfl, hb1⟩; have hB : Hid (Below w.heap.size w w1) := (HB.out.drew).trans (hb1.mono HB.out.size); clear hb1)
        all_goals
          go_wp2
          go_roundw
          case rel => exact ⟨k + 1, by go_num, by omega, hB.out⟩
          case measure => simp [intOf]; omega
      · go_wp2
        go_ret
        exact ⟨rfl, hb⟩
end Go.Proofs.Ytmaagbnjpdijnaa

namespace Go.Proofs.Ytmaagbnjpdijnaa
open Go.RowKit Go.Deep

/-- the eleven values of a field in a row told by its index -/
structure FdRow (f : Nat → Value) (o : Nat) (fd : Fd) (wv : Value) : Prop where
  r0 : f (o) = (.string fd.nm)
  r1 : f (o + 1) = (.int .i64 fd.kd)
  r2 : f (o + 2) = (.int .i64 fd.le)
  r3 : f (o + 3) = (.int .i64 fd.mo)
  r4 : f (o + 4) = wv
  r5 : f (o + 5) = (.string fd.to)
  r6 : f (o + 6) = (.int .i64 fd.ro)
  r7 : f (o + 7) = (.bool fd.mu)
  r8 : f (o + 8) = (.bool fd.fx)
  r9 : f (o + 9) = (.string fd.df)
  r10 : f (o + 10) = (.string fd.we)

def FdsFill (wr : World) (B : Nat) (Fs : List Fd) (k : Nat) : Prop :=
  ∃ f, wr.rowIs B 62 (Fs.length * 11) f ∧ ∀ i (h : i < Fs.length), i < k → FdSize Fs[i] ∧ ∃ wv, FdRow f (i * 11) Fs[i] wv ∧ StrsIn (B + 1) wr wv Fs[i].words

theorem FdsFill.below {wr w1 : World} {B : Nat} {Fs : List Fd} {k : Nat} (h : FdsFill wr B Fs k) (hb : Below wr.heap.size wr w1) : FdsFill w1 B Fs k := by
  obtain ⟨f, hr, hall⟩ := h
  refine ⟨f, hr.of_block (hb.block B hr.lt), fun i hi hik => ?_⟩
  obtain ⟨hs, wv, h1, h2⟩ := hall i hi hik
  exact ⟨hs, wv, h1, h2.below hb⟩
theorem FdsFill.free {wr : World} {B : Nat} {Fs : List Fd} {k : Nat} (h : FdsFill wr B Fs k) (i : Nat) : wr.frozen? ⟨B, i, none⟩ = false := by
  obtain ⟨f, hr, _⟩ := h
  exact hr.frozen i
theorem FdsFill.there {wr : World} {B : Nat} {Fs : List Fd} {k : Nat} (h : FdsFill wr B Fs k) (i : Nat) (hi : i < Fs.length * 11) : ∃ v, wr.cell? ⟨B, i, none⟩ = some v := by
  obtain ⟨f, hr, _⟩ := h
  exact ⟨_, hr.cell hi⟩
theorem FdsFill.lt {wr : World} {B : Nat} {Fs : List Fd} {k : Nat} (h : FdsFill wr B Fs k) : B < wr.heap.size := by
  obtain ⟨f, hr, _⟩ := h
  exact hr.lt

theorem FdsFill.step {w1 : World} {B : Nat} {Fs : List Fd} {k : Nat} {wv : Value} (h : FdsFill w1 B Fs k) (hk : k < Fs.length) (hz : FdSize Fs[k]) (hs : StrsIn (B + 1) w1 wv Fs[k].words) :
    FdsFill (((((((((((w1.setCell ⟨B, k * 11, none⟩ (.string Fs[k].nm)).setCell ⟨B, k * 11 + 1, none⟩ (.int .i64 Fs[k].kd)).setCell ⟨B, k * 11 + 2, none⟩ (.int .i64 Fs[k].le)).setCell ⟨B, k * 11 + 3, none⟩ (.int .i64 Fs[k].mo)).setCell ⟨B, k * 11 + 4, none⟩ wv).setCell ⟨B, k * 11 + 5, none⟩ (.string Fs[k].to)).setCell ⟨B, k * 11 + 6, none⟩ (.int .i64 Fs[k].ro)).setCell ⟨B, k * 11 + 7, none⟩ (.bool Fs[k].mu)).setCell ⟨B, k * 11 + 8, none⟩ (.bool Fs[k].fx)).setCell ⟨B, k * 11 + 9, none⟩ (.string Fs[k].df)).setCell ⟨B, k * 11 + 10, none⟩ (.string Fs[k].we)) B Fs (k + 1) := by
  obtain ⟨f, hr, hall⟩ := h
  refine ⟨_, (((((((((((hr.set _ _).set _ _).set _ _).set _ _).set _ _).set _ _).set _ _).set _ _).set _ _).set _ _).set _ _), fun i hi hik => ?_⟩
  by_cases e : i = k
  · subst e
    refine ⟨hz, wv, ⟨?_, ?_, ?_, ?_, ?_, ?_, ?_, ?_, ?_, ?_, ?_⟩, ?_⟩
    · simp
    · simp
    · simp
    · simp
    · simp
    · simp
    · simp
    · simp
    · simp
    · simp
    · simp
    · repeat (refine StrsIn.setCell ?_ (by simp only []; omega) _)
      exact hs
  · obtain ⟨hz', wv', hrow, hst⟩ := hall i hi (by omega)
    refine ⟨hz', wv', ⟨?_, ?_, ?_, ?_, ?_, ?_, ?_, ?_, ?_, ?_, ?_⟩, ?_⟩
    · rw [if_neg (by omega), if_neg (by omega), if_neg (by omega), if_neg (by omega), if_neg (by omega), if_neg (by omega), if_neg (by omega), if_neg (by omega), if_neg (by omega), if_neg (by omega), if_neg (by omega)]; exact hrow.r0
    · rw [if_neg (by omega), if_neg (by omega), if_neg (by omega), if_neg (by omega), if_neg (by omega), if_neg (by omega), if_neg (by omega), if_neg (by omega), if_neg (by omega), if_neg (by omega), if_neg (by omega)]; exact hrow.r1
    · rw [if_neg (by omega), if_neg (by omega), if_neg (by omega), if_neg (by omega), if_neg (by omega), if_neg (by omega), if_neg (by omega), if_neg (by omega), if_neg (by omega), if_neg (by omega), if_neg (by omega)]; exact hrow.r2
    · rw [if_neg (by omega), if_neg (by omega), if_neg (by omega), if_neg (by omega), if_neg (by omega), if_neg (by omega), if_neg (by omega), if_neg (by omega), if_neg (by omega), if_neg (by omega), if_neg (by omega)]; exact hrow.r3
    · rw [if_neg (by omega), if_neg (by omega), if_neg (by omega), if_neg (by omega), if_neg (by omega), if_neg (by omega), if_neg (by omega), if_neg (by omega), if_neg (by omega), if_neg (by omega), if_neg (by omega)]; exact hrow.r4
    · rw [if_neg (by omega), if_neg (by omega), if_neg (by omega), if_neg (by omega), if_neg (by omega), if_neg (by omega), if_neg (by omega), if_neg (by omega), if_neg (by omega), if_neg (by omega), if_neg (by omega)]; exact hrow.r5
    · rw [if_neg (by omega), if_neg (by omega), if_neg (by omega), if_neg (by omega), if_neg (by omega), if_neg (by omega), if_neg (by omega), if_neg (by omega), if_neg (by omega), if_neg (by omega), if_neg (by omega)]; exact hrow.r6
    · rw [if_neg (by omega), if_neg (by omega), if_neg (by omega), if_neg (by omega), if_neg (by omega), if_neg (by omega), if_neg (by omega), if_neg (by omega), if_neg (by omega), if_neg (by omega), if_neg (by omega)]; exact hrow.r7
    · rw [if_neg (by omega), if_neg (by omega), if_neg (by omega), if_neg (by omega), if_neg (by omega), if_neg (by omega), if_neg (by omega), if_neg (by omega), if_neg (by omega), if_neg (by omega), if_neg (by omega)]; exact hrow.r8
    · rw [if_neg (by omega), if_neg (by omega), if_neg (by omega), if_neg (by omega), if_neg (by omega), if_neg (by omega), if_neg (by omega), if_neg (by omega), if_neg (by omega), if_neg (by omega), if_neg (by omega)]; exact hrow.r9
    · rw [if_neg (by omega), if_neg (by omega), if_neg (by omega), if_neg (by omega), if_neg (by omega), if_neg (by omega), if_neg (by omega), if_neg (by omega), if_neg (by omega), if_neg (by omega), if_neg (by omega)]; exact hrow.r10
    · repeat (refine StrsIn.setCell ?_ (by simp only []; omega) _)
      exact hst

theorem FdsFill.done {wr : World} {B : Nat} {Fs : List Fd} {k : Nat} (h : FdsFill wr B Fs k) (hk : Fs.length ≤ k) (hne : Fs ≠ []) (hm : Fs.length ≤ maxLen) : FdsAt B wr (.slice (some ⟨B, 0, none⟩) Fs.length Fs.length) Fs := by
  obtain ⟨f, hr, hall⟩ := h
  refine Or.inr ⟨B, 0, Fs.length, rfl, hne, hm, hr.lt, Nat.le_refl _, Nat.le_refl _, fun i hi => ?_⟩
  obtain ⟨hz, wv, hrow, hst⟩ := hall i hi (by omega)
  refine ⟨hz, wv, ⟨?_, ?_, ?_, ?_, ?_, ?_, ?_, ?_, ?_, ?_, ?_⟩, hst.mono (by omega)⟩
  · rw [Nat.zero_add, hr.cell (by omega), hrow.r0]
  · rw [Nat.zero_add, hr.cell (by omega), hrow.r1]
  · rw [Nat.zero_add, hr.cell (by omega), hrow.r2]
  · rw [Nat.zero_add, hr.cell (by omega), hrow.r3]
  · rw [Nat.zero_add, hr.cell (by omega), hrow.r4]
  · rw [Nat.zero_add, hr.cell (by omega), hrow.r5]
  · rw [Nat.zero_add, hr.cell (by omega), hrow.r6]
  · rw [Nat.zero_add, hr.cell (by omega), hrow.r7]
  · rw [Nat.zero_add, hr.cell (by omega), hrow.r8]
  · rw [Nat.zero_add, hr.cell (by omega), hrow.r9]
  · rw [Nat.zero_add, hr.cell (by omega), hrow.r10]

theorem FdsFill.new (w : World) (Fs : List Fd) (z : Array Value) : FdsFill (w.alloc (.cells (madeCells z (Fs.length * 11)) 62)) w.heap.size Fs 0 := by
  refine ⟨fun i => (madeCells z (Fs.length * 11)).getD i default, ?_, fun i _ h => by omega⟩
  have := World.rowIs_alloc w (madeCells z (Fs.length * 11)) 62 (fun i => (madeCells z (Fs.length * 11)).getD i default) (fun i hi => by simp [Array.getD, hi])
  rwa [size_madeCells] at this

end Go.Proofs.Ytmaagbnjpdijnaa

namespace Go.Proofs.Ytmaagbnjpdijnaa
open Go.RowKit Go.Deep

theorem FdCells.setCell {w : World} {b o : Nat} {f : Fd} {wv : Value} (h : FdCells w b o f wv) {p : Addr} (hp : b ≠ p.block) (u : Value) : FdCells (w.setCell p u) b o f wv := by
  have e : ∀ o, (w.setCell p u).cell? ⟨b, o, none⟩ = w.cell? ⟨b, o, none⟩ := fun o => cell_setCell_ne _ _ _ _ hp
  exact ⟨by rw [e]; exact h.c0, by rw [e]; exact h.c1, by rw [e]; exact h.c2, by rw [e]; exact h.c3, by rw [e]; exact h.c4, by rw [e]; exact h.c5, by rw [e]; exact h.c6, by rw [e]; exact h.c7, by rw [e]; exact h.c8, by rw [e]; exact h.c9, by rw [e]; exact h.c10⟩
theorem FdsAt.setCell {lo : Nat} {w : World} {v : Value} {Fs : List Fd} (h : FdsAt lo w v Fs) {p : Addr} (hp : p.block < lo) (u : Value) : FdsAt lo (w.setCell p u) v Fs := by
  rcases h with h | ⟨b, off, cap, h1, h2, h3, h4, h5, h6, h7⟩
  · exact Or.inl h
  · refine Or.inr ⟨b, off, cap, h1, h2, h3, by simpa [World.setCell] using h4, h5, h6, fun i hi => ?_⟩
    obtain ⟨hs, wv, hc, hw⟩ := h7 i hi
    exact ⟨hs, wv, hc.setCell (by omega) u, hw.setCell hp u⟩

def ShsFill (wr : World) (B : Nat) (Ss : List Sh) (k : Nat) : Prop :=
  ∃ f, wr.rowIs B 68 (Ss.length * 2) f ∧ ∀ i (h : i < Ss.length), i < k → Ss[i].kind.size ≤ maxLen ∧ ∃ fv, f (i * 2) = .string Ss[i].kind ∧ f (i * 2 + 1) = fv ∧ FdsAt (B + 1) wr fv Ss[i].fields

theorem ShsFill.below {wr w1 : World} {B : Nat} {Ss : List Sh} {k : Nat} (h : ShsFill wr B Ss k) (hb : Below wr.heap.size wr w1) : ShsFill w1 B Ss k := by
  obtain ⟨f, hr, hall⟩ := h
  refine ⟨f, hr.of_block (hb.block B hr.lt), fun i hi hik => ?_⟩
  obtain ⟨hs, fv, h0, h1, h2⟩ := hall i hi hik
  exact ⟨hs, fv, h0, h1, h2.below hb⟩
theorem ShsFill.free {wr : World} {B : Nat} {Ss : List Sh} {k : Nat} (h : ShsFill wr B Ss k) (i : Nat) : wr.frozen? ⟨B, i, none⟩ = false := by
  obtain ⟨f, hr, _⟩ := h
  exact hr.frozen i
theorem ShsFill.there {wr : World} {B : Nat} {Ss : List Sh} {k : Nat} (h : ShsFill wr B Ss k) (i : Nat) (hi : i < Ss.length * 2) : ∃ v, wr.cell? ⟨B, i, none⟩ = some v := by
  obtain ⟨f, hr, _⟩ := h
  exact ⟨_, hr.cell hi⟩
theorem ShsFill.lt {wr : World} {B : Nat} {Ss : List Sh} {k : Nat} (h : ShsFill wr B Ss k) : B < wr.heap.size := by
  obtain ⟨f, hr, _⟩ := h
  exact hr.lt
theorem ShsFill.step {w1 : World} {B : Nat} {Ss : List Sh} {k : Nat} {fv : Value} (h : ShsFill w1 B Ss k) (hk : k < Ss.length) (hz : Ss[k].kind.size ≤ maxLen) (hs : FdsAt (B + 1) w1 fv Ss[k].fields) :
    ShsFill ((w1.setCell ⟨B, k * 2, none⟩ (.string Ss[k].kind)).setCell ⟨B, k * 2 + 1, none⟩ fv) B Ss (k + 1) := by
  obtain ⟨f, hr, hall⟩ := h
  refine ⟨_, ((hr.set _ _).set _ _), fun i hi hik => ?_⟩
  by_cases e : i = k
  · subst e
    refine ⟨hz, fv, ?_, ?_, ?_⟩
    · simp
    · simp
    · exact (hs.setCell (by simp only []; omega) _).setCell (by simp only []; omega) _
  · obtain ⟨hz', fv', h0, h1, hst⟩ := hall i hi (by omega)
    refine ⟨hz', fv', ?_, ?_, ?_⟩
    · rw [if_neg (by omega), if_neg (by omega)]; exact h0
    · rw [if_neg (by omega), if_neg (by omega)]; exact h1
    · exact (hst.setCell (by simp only []; omega) _).setCell (by simp only []; omega) _
theorem ShsFill.done {wr : World} {B : Nat} {Ss : List Sh} {k : Nat} (h : ShsFill wr B Ss k) (hk : Ss.length ≤ k) (hne : Ss ≠ []) (hm : Ss.length ≤ maxLen) : ShsAt B wr (.slice (some ⟨B, 0, none⟩) Ss.length Ss.length) Ss := by
  obtain ⟨f, hr, hall⟩ := h
  refine Or.inr ⟨B, 0, Ss.length, rfl, hne, hm, hr.lt, Nat.le_refl _, fun i hi => ?_⟩
  obtain ⟨hz, fv, h0, h1, hst⟩ := hall i hi (by omega)
  refine ⟨hz, fv, ?_, ?_, hst.mono (by omega)⟩
  · rw [Nat.zero_add, hr.cell (by omega), h0]
  · rw [Nat.zero_add, hr.cell (by omega), h1]
theorem ShsFill.new (w : World) (Ss : List Sh) (z : Array Value) : ShsFill (w.alloc (.cells (madeCells z (Ss.length * 2)) 68)) w.heap.size Ss 0 := by
  refine ⟨fun i => (madeCells z (Ss.length * 2)).getD i default, ?_, fun i _ h => by omega⟩
  have := World.rowIs_alloc w (madeCells z (Ss.length * 2)) 68 (fun i => (madeCells z (Ss.length * 2)).getD i default) (fun i hi => by simp [Array.getD, hi])
  rwa [size_madeCells] at this

end Go.Proofs.Ytmaagbnjpdijnaa

namespace Go.Proofs.Ytmaagbnjpdijnaa
open Go.RowKit Go.Deep

/-- place i is a name, and above the one ahead -/
def ascAt (L : List ByteArray) (i : Nat) : Bool :=
  nameB (L.getD i ⟨#[]⟩) && (i == 0 || Op.bytesLess (L.getD (i - 1) ⟨#[]⟩).toList (L.getD i ⟨#[]⟩).toList)
def ascB (L : List ByteArray) : Bool := (List.range L.length).all (ascAt L)

end Go.Proofs.Ytmaagbnjpdijnaa

namespace Go.Proofs.Ytmaagbnjpdijnaa
open Go.RowKit Go.Deep

theorem cell_set_ne (w : World) (p q : Addr) (u : Value) (h : p ≠ q) : (w.setCell p u).cell? q = w.cell? q := by
  apply World.cell?_setCell_other; exact h
theorem cell_set_eq (w : World) (p : Addr) (u v : Value) (h : w.cell? p = some v) : (w.setCell p u).cell? p = some u := by
  apply World.cell?_setCell_same; exact h

def shOf (Ss : List Sh) (s : ByteArray) : Option Sh := Ss.find? fun x => x.kind.toList == s.toList
def hasK (Ss : List Sh) (s : ByteArray) : Bool := (shOf Ss s).isSome

end Go.Proofs.Ytmaagbnjpdijnaa

