import Derived.Test.YtfohnageehneoaaGreatUA2
import Derived.Deep.RegionWith
import Derived.Test.YtfohnageehneoaaGreatUA1
namespace Go.Proofs.YtfohnageehneoaaGreat
open Go.RowKit Go.Deep

/-- a field -/
structure Fd where
  nm : ByteArray
  kd : Int
  le : Int
  mo : Int
  words : List ByteArray
  to : ByteArray
  ro : Int
  mu : Bool
  fx : Bool
  df : ByteArray
  we : ByteArray

/-- THE ELEVEN CELLS OF A FIELD, from place o of block b on. -/
structure FdCells (w : World) (b o : Nat) (f : Fd) (wv : Value) : Prop where
  c0 : w.cell? ⟨b, o, none⟩ = some (.string f.nm)
  c1 : w.cell? ⟨b, o + 1, none⟩ = some (.int .i64 f.kd)
  c2 : w.cell? ⟨b, o + 2, none⟩ = some (.int .i64 f.le)
  c3 : w.cell? ⟨b, o + 3, none⟩ = some (.int .i64 f.mo)
  c4 : w.cell? ⟨b, o + 4, none⟩ = some wv
  c5 : w.cell? ⟨b, o + 5, none⟩ = some (.string f.to)
  c6 : w.cell? ⟨b, o + 6, none⟩ = some (.int .i64 f.ro)
  c7 : w.cell? ⟨b, o + 7, none⟩ = some (.bool f.mu)
  c8 : w.cell? ⟨b, o + 8, none⟩ = some (.bool f.fx)
  c9 : w.cell? ⟨b, o + 9, none⟩ = some (.string f.df)
  c10 : w.cell? ⟨b, o + 10, none⟩ = some (.string f.we)

structure FdSize (f : Fd) : Prop where
  s0 : f.nm.size ≤ maxLen
  s5 : f.to.size ≤ maxLen
  s9 : f.df.size ≤ maxLen
  s10 : f.we.size ≤ maxLen

theorem FdCells.below {w w' : World} {b o : Nat} {f : Fd} {wv : Value} (h : FdCells w b o f wv) (hb : Below w.heap.size w w') (hlt : b < w.heap.size) : FdCells w' b o f wv := by
  have e : ∀ o, w'.cell? ⟨b, o, none⟩ = w.cell? ⟨b, o, none⟩ := fun o => hb.cell (p := ⟨b, o, none⟩) hlt
  exact ⟨by rw [e]; exact h.c0, by rw [e]; exact h.c1, by rw [e]; exact h.c2, by rw [e]; exact h.c3, by rw [e]; exact h.c4, by rw [e]; exact h.c5, by rw [e]; exact h.c6, by rw [e]; exact h.c7, by rw [e]; exact h.c8, by rw [e]; exact h.c9, by rw [e]; exact h.c10⟩

/-- A []GateField THAT HOLDS Fs; its cells lie from block lo on. -/
def FdsAt (lo : Nat) (w : World) (v : Value) (Fs : List Fd) : Prop :=
  (∃ (a : Option Addr) (cap : Nat), v = .slice a 0 cap ∧ Fs = []) ∨
  ∃ (b off cap : Nat), v = .slice (some ⟨b, off, none⟩) Fs.length cap ∧ Fs ≠ [] ∧ Fs.length ≤ maxLen ∧ b < w.heap.size ∧ lo ≤ b ∧ Fs.length ≤ cap ∧
    ∀ i (h : i < Fs.length), FdSize Fs[i] ∧ ∃ wv, FdCells w b (off + i * 11) Fs[i] wv ∧ StrsIn lo w wv Fs[i].words

theorem FdsAt.below {lo : Nat} {w w' : World} {v : Value} {Fs : List Fd} (h : FdsAt lo w v Fs) (hb : Below w.heap.size w w') : FdsAt lo w' v Fs := by
  rcases h with h | ⟨b, off, cap, h1, h2, h3, h4, h5, h6, h7⟩
  · exact Or.inl h
  · refine Or.inr ⟨b, off, cap, h1, h2, h3, Nat.lt_of_lt_of_le h4 hb.size, h5, h6, fun i hi => ?_⟩
    obtain ⟨hs, wv, hc, hw⟩ := h7 i hi
    exact ⟨hs, wv, hc.below hb h4, hw.below hb⟩
theorem FdsAt.mono {lo lo' : Nat} {w : World} {v : Value} {Fs : List Fd} (h : FdsAt lo w v Fs) (hl : lo' ≤ lo) : FdsAt lo' w v Fs := by
  rcases h with h | ⟨b, off, cap, h1, h2, h3, h4, h5, h6, h7⟩
  · exact Or.inl h
  · refine Or.inr ⟨b, off, cap, h1, h2, h3, h4, Nat.le_trans hl h5, h6, fun i hi => ?_⟩
    obtain ⟨hs, wv, hc, hw⟩ := h7 i hi
    exact ⟨hs, wv, hc, hw.mono hl⟩
theorem FdsAt.form {lo : Nat} {w : World} {v : Value} {Fs : List Fd} (h : FdsAt lo w v Fs) : ∃ a cap, v = .slice a Fs.length cap := by
  rcases h with ⟨a, cap, h, rfl⟩ | ⟨b, off, cap, h, _⟩
  · exact ⟨a, cap, h⟩
  · exact ⟨_, cap, h⟩

def FdsSmall (Fs : List Fd) : Prop := Fs.length ≤ 1048576 ∧ ∀ i (h : i < Fs.length), Fs[i].words.length ≤ 1048576
def SzFds (Fs : List Fd) (left r : Int) : Prop := -1 ≤ r ∧ r ≤ left ∧ (0 ≤ r → FdsSmall Fs)

set_option maxHeartbeats 1000000 in
theorem szFds_any (lo : Nat) (v : Value) (Fs : List Fd) (left : Int) (w : World) (h0 : 0 ≤ left) (h1 : left ≤ 1048576) (hv : FdsAt lo w v Fs) :
    Calls Tryz.prog 152 #[v, .int .i64 left] w fun e w' => ∃ r : Int, e = .returned (.int .i64 r) ∧ Below w.heap.size w w' ∧ SzFds Fs left r := by
  rcases hv with ⟨a, cap, rfl, rfl⟩ | ⟨b, off, cap, rfl, hne, hm, hbw, _, _, hc⟩
  · go_enter Tryz.func152, Tryz.ntmps152
    go_wp2
    go_loop [1, 5] (fun l i => ∃ r : Int, l = .int .i64 r ∧ 0 ≤ r ∧ r ≤ left ∧ i = .int .i64 0) (fun _ _ => 0)
    case atStart => exact ⟨_, rfl, by omega, by omega, rfl⟩
    case round =>
      obtain ⟨r, rfl, hr0, hr1, rfl⟩ := hrel
      go_wp2
      go_ret
      exact ⟨r, rfl, Below.refl _ _, by omega, by omega, fun _ => ⟨by simp, fun i h => absurd h (by simp)⟩⟩
  · unfold maxLen at hm
    by_cases hle : (Fs.length : Int) ≤ left
    · go_enter Tryz.func152, Tryz.ntmps152
      go_wp2
      go_loopw [1, 5] (fun l i wr => ∃ (r : Int) (k : Nat), l = .int .i64 r ∧ 0 ≤ r ∧ r ≤ left ∧ i = .int .i64 k ∧ k ≤ Fs.length ∧ Below w.heap.size w wr ∧ ∀ i (h : i < Fs.length), i < k → Fs[i].words.length ≤ 1048576) (fun _ i _ => Fs.length - (intOf i).toNat)
      case atStart => exact ⟨_, 0, rfl, by omega, by omega, rfl, by omega, Below.refl _ _, fun i h h' => by omega⟩
      case round =>
        obtain ⟨r, k, rfl, hr0, hr1, rfl, hk, hb, hall⟩ := hrel
        have HA := hide hall
        clear hall
        by_cases hlt : k < Fs.length
        · obtain ⟨hsz, wv, hcell, hst⟩ := hc k hlt
          have hcell := hcell.below hb hbw
          obtain ⟨c0, c1, c2, c3, c4, c5, c6, c7, c8, c9, c10⟩ := hcell
          go_wp2_with fail
          refine (szField_any _ _ _ _ _ _ _ _ _ _ _ Fs[k].words _ _ (hst.at.below hb) hr0 (by omega) hsz.s0 hsz.s5 hsz.s9 hsz.s10).mono ?_
          rintro e w1 ⟨r1, rfl, hb1, q0, q1, q2⟩
          have hB : Hid (Below w.heap.size w w1) := hb.trans (hb1.mono hb.size)
          clear hb1 c0 c1 c2 c3 c4 c5 c6 c7 c8 c9 c10 hb
          go_wp2
          all_goals first
            | (go_roundw
               case rel => exact ⟨_, k + 1, rfl, by omega, by omega, by go_num, by omega, hB.out, fun i h h' => by
                              by_cases e : i = k
                              · subst e; have := q2 (by omega); omega
                              · exact HA.out i h (by omega)⟩
               case measure => simp [intOf]; omega)
            | (go_ret
               exact ⟨-1, rfl, hB.out, by omega, by omega, fun h => by omega⟩)
        · go_wp2
          go_ret
          exact ⟨r, rfl, hb, by omega, by omega, fun _ => ⟨by omega, fun i h => HA.out i h (by omega)⟩⟩
    · go_enter Tryz.func152, Tryz.ntmps152
      go_wp2
      go_ret
      exact ⟨-1, rfl, Below.refl _ _, by omega, by omega, fun h => by omega⟩

/-- a shape -/
structure Sh where
  kind : ByteArray
  fields : List Fd

/-- A []GateShape THAT HOLDS Ss; its cells lie from block lo on. -/
def ShsAt (lo : Nat) (w : World) (v : Value) (Ss : List Sh) : Prop :=
  (∃ (a : Option Addr) (cap : Nat), v = .slice a 0 cap ∧ Ss = []) ∨
  ∃ (b off cap : Nat), v = .slice (some ⟨b, off, none⟩) Ss.length cap ∧ Ss ≠ [] ∧ Ss.length ≤ maxLen ∧ b < w.heap.size ∧ lo ≤ b ∧
    ∀ i (h : i < Ss.length), Ss[i].kind.size ≤ maxLen ∧ ∃ fv, w.cell? ⟨b, off + i * 2, none⟩ = some (.string Ss[i].kind) ∧ w.cell? ⟨b, off + i * 2 + 1, none⟩ = some fv ∧ FdsAt lo w fv Ss[i].fields

theorem ShsAt.below {lo : Nat} {w w' : World} {v : Value} {Ss : List Sh} (h : ShsAt lo w v Ss) (hb : Below w.heap.size w w') : ShsAt lo w' v Ss := by
  rcases h with h | ⟨b, off, cap, h1, h2, h3, h4, h5, h7⟩
  · exact Or.inl h
  · refine Or.inr ⟨b, off, cap, h1, h2, h3, Nat.lt_of_lt_of_le h4 hb.size, h5, fun i hi => ?_⟩
    obtain ⟨hs, fv, hc, hc', hw⟩ := h7 i hi
    exact ⟨hs, fv, by rw [hb.cell (p := ⟨b, _, none⟩) h4]; exact hc, by rw [hb.cell (p := ⟨b, _, none⟩) h4]; exact hc', hw.below hb⟩
theorem ShsAt.mono {lo lo' : Nat} {w : World} {v : Value} {Ss : List Sh} (h : ShsAt lo w v Ss) (hl : lo' ≤ lo) : ShsAt lo' w v Ss := by
  rcases h with h | ⟨b, off, cap, h1, h2, h3, h4, h5, h7⟩
  · exact Or.inl h
  · refine Or.inr ⟨b, off, cap, h1, h2, h3, h4, Nat.le_trans hl h5, fun i hi => ?_⟩
    obtain ⟨hs, fv, hc, hc', hw⟩ := h7 i hi
    exact ⟨hs, fv, hc, hc', hw.mono hl⟩
theorem ShsAt.form {lo : Nat} {w : World} {v : Value} {Ss : List Sh} (h : ShsAt lo w v Ss) : ∃ a cap, v = .slice a Ss.length cap := by
  rcases h with ⟨a, cap, h, rfl⟩ | ⟨b, off, cap, h, _⟩
  · exact ⟨a, cap, h⟩
  · exact ⟨_, cap, h⟩

def ShsSmall (Ss : List Sh) : Prop := Ss.length ≤ 1048576 ∧ ∀ i (h : i < Ss.length), FdsSmall Ss[i].fields
def SzShs (Ss : List Sh) (left r : Int) : Prop := -1 ≤ r ∧ r ≤ left ∧ (0 ≤ r → ShsSmall Ss)

set_option maxHeartbeats 1000000 in
theorem szShape_any (lo : Nat) (kind : ByteArray) (v : Value) (Fs : List Fd) (left : Int) (w : World) (h0 : 0 ≤ left) (h1 : left ≤ 1048576) (hv : FdsAt lo w v Fs) (hs : kind.size ≤ maxLen) :
    Calls Tryz.prog 86 #[.agg #[.string kind, v], .int .i64 left] w fun e w' => ∃ r : Int, e = .returned (.int .i64 r) ∧ Below w.heap.size w w' ∧ SzFds Fs left r := by
  have HV := hide hv
  obtain ⟨a, cap, rfl⟩ := hv.form
  clear hv
  unfold maxLen at hs
  have HW : ∀ o, Hid (Below w.heap.size w (w.alloc o)) := fun o => (Below.refl _ _).alloc (Nat.le_refl _) _
  by_cases c1 : (kind.size : Int) ≤ left
  · go_enter Tryz.func86, Tryz.ntmps86
    go_wp2_with fail
    refine (szFds_any lo _ Fs _ _ (by omega) (by omega) (HV.out.below (HW _).out)).mono ?_
    rintro e w1 ⟨r, rfl, hb1, q0, q1, q2⟩
    have hB : Hid (Below w.heap.size w w1) := (HW _).out.trans (hb1.mono (by simp))
    have HQ := hide q2
    clear hb1 q2
    go_wp2
    all_goals go_ret
    all_goals first
      | exact ⟨_, rfl, hB.out, by omega, by omega, HQ.out⟩
      | exact ⟨-1, rfl, hB.out, by omega, by omega, fun h => by omega⟩
  · go_enter Tryz.func86, Tryz.ntmps86
    go_wp2
    go_ret
    exact ⟨-1, rfl, (HW _).out, by omega, by omega, fun h => by omega⟩

set_option maxHeartbeats 1000000 in
theorem szShs_any (lo : Nat) (v : Value) (Ss : List Sh) (left : Int) (w : World) (h0 : 0 ≤ left) (h1 : left ≤ 1048576) (hv : ShsAt lo w v Ss) :
    Calls Tryz.prog 27 #[v, .int .i64 left] w fun e w' => ∃ r : Int, e = .returned (.int .i64 r) ∧ Below w.heap.size w w' ∧ SzShs Ss left r := by
  rcases hv with ⟨a, cap, rfl, rfl⟩ | ⟨b, off, cap, rfl, hne, hm, hbw, _, hc⟩
  · go_enter Tryz.func27, Tryz.ntmps27
    go_wp2
    go_loop [1, 5] (fun l i => ∃ r : Int, l = .int .i64 r ∧ 0 ≤ r ∧ r ≤ left ∧ i = .int .i64 0) (fun _ _ => 0)
    case atStart => exact ⟨_, rfl, by omega, by omega, rfl⟩
    case round =>
      obtain ⟨r, rfl, hr0, hr1, rfl⟩ := hrel
      go_wp2
      go_ret
      exact ⟨r, rfl, Below.refl _ _, by omega, by omega, fun _ => ⟨by simp, fun i h => absurd h (by simp)⟩⟩
  · unfold maxLen at hm
    by_cases hle : (Ss.length : Int) ≤ left
    · go_enter Tryz.func27, Tryz.ntmps27
      go_wp2
      go_loopw [1, 5] (fun l i wr => ∃ (r : Int) (k : Nat), l = .int .i64 r ∧ 0 ≤ r ∧ r ≤ left ∧ i = .int .i64 k ∧ k ≤ Ss.length ∧ Below w.heap.size w wr ∧ ∀ i (h : i < Ss.length), i < k → FdsSmall Ss[i].fields) (fun _ i _ => Ss.length - (intOf i).toNat)
      case atStart => exact ⟨_, 0, rfl, by omega, by omega, rfl, by omega, Below.refl _ _, fun i h h' => by omega⟩
      case round =>
        obtain ⟨r, k, rfl, hr0, hr1, rfl, hk, hb, hall⟩ := hrel
        have HA := hide hall
        clear hall
        by_cases hlt : k < Ss.length
        · obtain ⟨hsz, fv, c0, c1, hst⟩ := hc k hlt
          have c0' : wr.cell? ⟨b, off + k * 2, none⟩ = some (.string Ss[k].kind) := by rw [hb.cell (p := ⟨b, _, none⟩) hbw]; exact c0
          have c1' : wr.cell? ⟨b, off + k * 2 + 1, none⟩ = some fv := by rw [hb.cell (p := ⟨b, _, none⟩) hbw]; exact c1
          clear c0 c1
          go_wp2_with fail
          refine (szShape_any lo _ _ Ss[k].fields _ _ hr0 (by omega) (hst.below hb) hsz).mono ?_
          rintro e w1 ⟨r1, rfl, hb1, q0, q1, q2⟩
          have hB : Hid (Below w.heap.size w w1) := hb.trans (hb1.mono hb.size)
          have HQ := hide q2
          clear hb1 c0' c1' hb q2
          go_wp2
          all_goals first
            | (go_roundw
               case rel => exact ⟨_, k + 1, rfl, by omega, by omega, by go_num, by omega, hB.out, fun i h h' => by
                              by_cases e : i = k
                              · subst e; exact HQ.out (by omega)
                              · exact HA.out i h (by omega)⟩
               case measure => simp [intOf]; omega)
            | (go_ret
               exact ⟨-1, rfl, hB.out, by omega, by omega, fun h => by omega⟩)
        · go_wp2
          go_ret
          exact ⟨r, rfl, hb, by omega, by omega, fun _ => ⟨by omega, fun i h => HA.out i h (by omega)⟩⟩
    · go_enter Tryz.func27, Tryz.ntmps27
      go_wp2
      go_ret
      exact ⟨-1, rfl, Below.refl _ _, by omega, by omega, fun h => by omega⟩
end Go.Proofs.YtfohnageehneoaaGreat

namespace Go.Proofs.YtfohnageehneoaaGreat
open Go.RowKit Go.Deep

theorem nil_form {lo : Nat} {w : World} {v : Value} (h : FdsAt lo w v []) : ∃ a cap, v = .slice a 0 cap := h.form
theorem FdsAt.full {lo : Nat} {w : World} {v : Value} {Fs : List Fd} (h : FdsAt lo w v Fs) (hne : Fs ≠ []) : ∃ (b off cap : Nat), v = .slice (some ⟨b, off, none⟩) Fs.length cap ∧ Fs.length ≤ maxLen ∧ b < w.heap.size ∧ Fs.length ≤ cap ∧
    ∀ i (h : i < Fs.length), FdSize Fs[i] ∧ ∃ wv, FdCells w b (off + i * 11) Fs[i] wv ∧ StrsIn lo w wv Fs[i].words := by
  rcases h with ⟨_, _, _, h⟩ | ⟨b, off, cap, h1, _, h3, h4, _, h6, h7⟩
  · exact absurd h hne
  · exact ⟨b, off, cap, h1, h3, h4, h6, h7⟩
theorem ShsAt.full {lo : Nat} {w : World} {v : Value} {Ss : List Sh} (h : ShsAt lo w v Ss) (hne : Ss ≠ []) : ∃ (b off cap : Nat), v = .slice (some ⟨b, off, none⟩) Ss.length cap ∧ Ss.length ≤ maxLen ∧ b < w.heap.size ∧
    ∀ i (h : i < Ss.length), Ss[i].kind.size ≤ maxLen ∧ ∃ fv, w.cell? ⟨b, off + i * 2, none⟩ = some (.string Ss[i].kind) ∧ w.cell? ⟨b, off + i * 2 + 1, none⟩ = some fv ∧ FdsAt lo w fv Ss[i].fields := by
  rcases h with ⟨_, _, _, h⟩ | ⟨b, off, cap, h1, _, h3, h4, _, h7⟩
  · exact absurd h hne
  · exact ⟨b, off, cap, h1, h3, h4, h7⟩

set_option maxHeartbeats 1000000 in
theorem eqFds_same (lo lo' : Nat) (v v' : Value) (Fs : List Fd) (w : World) (hv : FdsAt lo w v Fs) (hv' : FdsAt lo' w v' Fs) :
    Calls Tryz.prog 174 #[v, v'] w fun e w' => e = .returned (.bool true) ∧ Below w.heap.size w w' := by
  by_cases hL : Fs = []
  · subst hL
    obtain ⟨a, cap, rfl⟩ := nil_form hv
    obtain ⟨a', cap', rfl⟩ := nil_form hv'
    clear hv hv'
    go_enter Tryz.func174, Tryz.ntmps174
    go_wp2
    go_loop [5] (fun i => i = .int .i64 0) (fun _ => 0)
    case atStart => rfl
    case round =>
      subst hrel
      go_wp2
      go_ret
      exact ⟨rfl, Below.refl _ _⟩
  · obtain ⟨b, off, cap, rfl, hm, hbw, _, hc⟩ := hv.full hL
    obtain ⟨b', off', cap', rfl, _, hbw', _, hc'⟩ := hv'.full hL
    clear hv hv'
    unfold maxLen at hm
    go_enter Tryz.func174, Tryz.ntmps174
    go_wp2
    go_loopw [5] (fun i wr => ∃ k : Nat, i = .int .i64 k ∧ k ≤ Fs.length ∧ Below w.heap.size w wr) (fun i _ => Fs.length - (intOf i).toNat)
    case atStart => exact ⟨0, rfl, by omega, Below.refl _ _⟩
    case round =>
      obtain ⟨k, rfl, hk, hb⟩ := hrel
      by_cases hlt : k < Fs.length
      · obtain ⟨_, wv, hcell, hst⟩ := hc k hlt
        obtain ⟨_, wv', hcell', hst'⟩ := hc' k hlt
        have HST : Hid (StrsAt wr wv Fs[k].words) := hst.at.below hb
        have HST' : Hid (StrsAt wr wv' Fs[k].words) := hst'.at.below hb
        obtain ⟨a1, n1, cap1, rfl⟩ := hst.form
        obtain ⟨a2, n2, cap2, rfl⟩ := hst'.form
        clear hst hst'
        obtain ⟨c0, c1, c2, c3, c4, c5, c6, c7, c8, c9, c10⟩ := hcell.below hb hbw
        obtain ⟨d0, d1, d2, d3, d4, d5, d6, d7, d8, d9, d10⟩ := hcell'.below hb hbw'
        clear hcell hcell'
        have HB := hide hb
        clear hb
        go_wp2
        go_region_with (go_at_call 215; refine (eqField_same _ _ _ _ _ _ _ _ _ _ _ _ Fs[k].words _ (HST.out.below (Below.drew (Below.refl _ _))) (HST'.out.below (Below.drew (Below.refl _ _)))).mono ?_; rintro e w1 ⟨rfl, hb1⟩; have hB : Hid (Below w.heap.size w w1) := (HB.out.drew).trans (hb1.mono HB.out.size); clear hb1)
        all_goals
          go_wp2
          go_roundw
          case rel => exact ⟨k + 1, by go_num, by omega, hB.out⟩
          case measure => simp [intOf]; omega
      · go_wp2
        go_ret
        exact ⟨rfl, hb⟩

set_option maxHeartbeats 1000000 in
theorem eqShape_same (lo lo' : Nat) (kind : ByteArray) (v v' : Value) (Fs : List Fd) (w : World) (hv : FdsAt lo w v Fs) (hv' : FdsAt lo' w v' Fs) :
    Calls Tryz.prog 118 #[.agg #[.string kind, v], .agg #[.string kind, v']] w fun e w' => e = .returned (.bool true) ∧ Below w.heap.size w w' := by
  have HV := hide hv
  have HV' := hide hv'
  obtain ⟨a, cap, rfl⟩ := hv.form
  obtain ⟨a', cap', rfl⟩ := hv'.form
  clear hv hv'
  have HW : ∀ o o', Hid (Below w.heap.size w ((w.alloc o).alloc o')) := fun o o' => ((Below.refl _ _).alloc (Nat.le_refl _) _).alloc (by simp) _
  go_enter Tryz.func118, Tryz.ntmps118
  go_wp2_with fail
  refine (eqFds_same lo lo' _ _ Fs _ (HV.out.below (HW _ _).out) (HV'.out.below (HW _ _).out)).mono ?_
  rintro e w1 ⟨rfl, hb⟩
  have HB : Hid (Below w.heap.size w w1) := (HW _ _).out.trans (hb.mono (by simp; omega))
  clear hb
  go_wp2
  go_ret
  exact ⟨rfl, HB.out⟩

set_option maxHeartbeats 1000000 in
theorem eqShs_same (lo lo' : Nat) (v v' : Value) (Ss : List Sh) (w : World) (hv : ShsAt lo w v Ss) (hv' : ShsAt lo' w v' Ss) :
    Calls Tryz.prog 55 #[v, v'] w fun e w' => e = .returned (.bool true) ∧ Below w.heap.size w w' := by
  by_cases hL : Ss = []
  · subst hL
    obtain ⟨a, cap, rfl⟩ := hv.form
    obtain ⟨a', cap', rfl⟩ := hv'.form
    clear hv hv'
    go_enter Tryz.func55, Tryz.ntmps55
    go_wp2
    go_loop [5] (fun i => i = .int .i64 0) (fun _ => 0)
    case atStart => rfl
    case round =>
      subst hrel
      go_wp2
      go_ret
      exact ⟨rfl, Below.refl _ _⟩
  · obtain ⟨b, off, cap, rfl, hm, hbw, hc⟩ := hv.full hL
    obtain ⟨b', off', cap', rfl, _, hbw', hc'⟩ := hv'.full hL
    clear hv hv'
    unfold maxLen at hm
    go_enter Tryz.func55, Tryz.ntmps55
    go_wp2
    go_loopw [5] (fun i wr => ∃ k : Nat, i = .int .i64 k ∧ k ≤ Ss.length ∧ Below w.heap.size w wr) (fun i _ => Ss.length - (intOf i).toNat)
    case atStart => exact ⟨0, rfl, by omega, Below.refl _ _⟩
    case round =>
      obtain ⟨k, rfl, hk, hb⟩ := hrel
      by_cases hlt : k < Ss.length
      · obtain ⟨_, fv, c0, c1, hst⟩ := hc k hlt
        obtain ⟨_, fv', d0, d1, hst'⟩ := hc' k hlt
        have HST : Hid (FdsAt lo wr fv Ss[k].fields) := hst.below hb
        have HST' : Hid (FdsAt lo' wr fv' Ss[k].fields) := hst'.below hb
        obtain ⟨a1, cap1, rfl⟩ := hst.form
        obtain ⟨a2, cap2, rfl⟩ := hst'.form
        clear hst hst'
        have e0 : wr.cell? ⟨b, off + k * 2, none⟩ = some (.string Ss[k].kind) := by rw [hb.cell (p := ⟨b, _, none⟩) hbw]; exact c0
        have e1 : wr.cell? ⟨b, off + k * 2 + 1, none⟩ = some (.slice a1 Ss[k].fields.length cap1) := by rw [hb.cell (p := ⟨b, _, none⟩) hbw]; exact c1
        have g0 : wr.cell? ⟨b', off' + k * 2, none⟩ = some (.string Ss[k].kind) := by rw [hb.cell (p := ⟨b', _, none⟩) hbw']; exact d0
        have g1 : wr.cell? ⟨b', off' + k * 2 + 1, none⟩ = some (.slice a2 Ss[k].fields.length cap2) := by rw [hb.cell (p := ⟨b', _, none⟩) hbw']; exact d1
        clear c0 c1 d0 d1
        have HB := hide hb
        clear hb
        go_wp2
        go_region_with (go_at_call 118; refine (eqShape_same lo lo' _ _ _ Ss[k].fields _ (HST.out.below (Below.drew (Below.refl _ _))) (HST'.out.below (Below.drew (Below.refl _ _)))).mono ?_; rintro e w1 ⟨rfl, hb1⟩; have hB : Hid (Below w.heap.size w w1) := (HB.out.drew).trans (hb1.mono HB.out.size); clear hb1)
        all_goals
          go_wp2
          go_roundw
          case rel => exact ⟨k + 1, by go_num, by omega, hB.out⟩
          case measure => simp [intOf]; omega
      · go_wp2
        go_ret
        exact ⟨rfl, hb⟩
end Go.Proofs.YtfohnageehneoaaGreat

namespace Go.Proofs.YtfohnageehneoaaGreat
open Go.RowKit Go.Deep

theorem Tryz.info218 : (Tryz.prog.info? 218).map (fun i => (i.zero, i.size, i.bytes)) = some (some (.agg #[.string ⟨#[]⟩, .int .i64 0, .int .i64 0, .int .i64 0, .slice none 0 0, .string ⟨#[]⟩, .int .i64 0, .bool false, .bool false, .string ⟨#[]⟩, .string ⟨#[]⟩]), 11, 128) := by kernel_rfl
theorem Tryz.info164 : (Tryz.prog.info? 164).map (fun i => (i.zero, i.size, i.bytes)) = some (some (.agg #[.string ⟨#[]⟩, .slice none 0 0]), 2, 40) := by kernel_rfl

/-- the eleven values of a field in a row told by its index -/
structure FdRow (f : Nat → Value) (o : Nat) (fd : Fd) (wv : Value) : Prop where
  r0 : f (o) = (.string fd.nm)
  r1 : f (o + 1) = (.int .i64 fd.kd)
  r2 : f (o + 2) = (.int .i64 fd.le)
  r3 : f (o + 3) = (.int .i64 fd.mo)
  r4 : f (o + 4) = wv
  r5 : f (o + 5) = (.string fd.to)
  r6 : f (o + 6) = (.int .i64 fd.ro)
  r7 : f (o + 7) = (.bool fd.mu)
  r8 : f (o + 8) = (.bool fd.fx)
  r9 : f (o + 9) = (.string fd.df)
  r10 : f (o + 10) = (.string fd.we)

def FdsFill (wr : World) (B : Nat) (Fs : List Fd) (k : Nat) : Prop :=
  ∃ f, wr.rowIs B 218 (Fs.length * 11) f ∧ ∀ i (h : i < Fs.length), i < k → FdSize Fs[i] ∧ ∃ wv, FdRow f (i * 11) Fs[i] wv ∧ StrsIn (B + 1) wr wv Fs[i].words

theorem FdsFill.below {wr w1 : World} {B : Nat} {Fs : List Fd} {k : Nat} (h : FdsFill wr B Fs k) (hb : Below wr.heap.size wr w1) : FdsFill w1 B Fs k := by
  obtain ⟨f, hr, hall⟩ := h
  refine ⟨f, hr.of_block (hb.block B hr.lt), fun i hi hik => ?_⟩
  obtain ⟨hs, wv, h1, h2⟩ := hall i hi hik
  exact ⟨hs, wv, h1, h2.below hb⟩
theorem FdsFill.free {wr : World} {B : Nat} {Fs : List Fd} {k : Nat} (h : FdsFill wr B Fs k) (i : Nat) : wr.frozen? ⟨B, i, none⟩ = false := by
  obtain ⟨f, hr, _⟩ := h
  exact hr.frozen i
theorem FdsFill.there {wr : World} {B : Nat} {Fs : List Fd} {k : Nat} (h : FdsFill wr B Fs k) (i : Nat) (hi : i < Fs.length * 11) : ∃ v, wr.cell? ⟨B, i, none⟩ = some v := by
  obtain ⟨f, hr, _⟩ := h
  exact ⟨_, hr.cell hi⟩
theorem FdsFill.lt {wr : World} {B : Nat} {Fs : List Fd} {k : Nat} (h : FdsFill wr B Fs k) : B < wr.heap.size := by
  obtain ⟨f, hr, _⟩ := h
  exact hr.lt

theorem FdsFill.step {w1 : World} {B : Nat} {Fs : List Fd} {k : Nat} {wv : Value} (h : FdsFill w1 B Fs k) (hk : k < Fs.length) (hz : FdSize Fs[k]) (hs : StrsIn (B + 1) w1 wv Fs[k].words) :
    FdsFill (((((((((((w1.setCell ⟨B, k * 11, none⟩ (.string Fs[k].nm)).setCell ⟨B, k * 11 + 1, none⟩ (.int .i64 Fs[k].kd)).setCell ⟨B, k * 11 + 2, none⟩ (.int .i64 Fs[k].le)).setCell ⟨B, k * 11 + 3, none⟩ (.int .i64 Fs[k].mo)).setCell ⟨B, k * 11 + 4, none⟩ wv).setCell ⟨B, k * 11 + 5, none⟩ (.string Fs[k].to)).setCell ⟨B, k * 11 + 6, none⟩ (.int .i64 Fs[k].ro)).setCell ⟨B, k * 11 + 7, none⟩ (.bool Fs[k].mu)).setCell ⟨B, k * 11 + 8, none⟩ (.bool Fs[k].fx)).setCell ⟨B, k * 11 + 9, none⟩ (.string Fs[k].df)).setCell ⟨B, k * 11 + 10, none⟩ (.string Fs[k].we)) B Fs (k + 1) := by
  obtain ⟨f, hr, hall⟩ := h
  refine ⟨_, (((((((((((hr.set _ _).set _ _).set _ _).set _ _).set _ _).set _ _).set _ _).set _ _).set _ _).set _ _).set _ _), fun i hi hik => ?_⟩
  by_cases e : i = k
  · subst e
    refine ⟨hz, wv, ⟨?_, ?_, ?_, ?_, ?_, ?_, ?_, ?_, ?_, ?_, ?_⟩, ?_⟩
    · simp
    · simp
    · simp
    · simp
    · simp
    · simp
    · simp
    · simp
    · simp
    · simp
    · simp
    · repeat (refine StrsIn.setCell ?_ (by simp only []; omega) _)
      exact hs
  · obtain ⟨hz', wv', hrow, hst⟩ := hall i hi (by omega)
    refine ⟨hz', wv', ⟨?_, ?_, ?_, ?_, ?_, ?_, ?_, ?_, ?_, ?_, ?_⟩, ?_⟩
    · rw [if_neg (by omega), if_neg (by omega), if_neg (by omega), if_neg (by omega), if_neg (by omega), if_neg (by omega), if_neg (by omega), if_neg (by omega), if_neg (by omega), if_neg (by omega), if_neg (by omega)]; exact hrow.r0
    · rw [if_neg (by omega), if_neg (by omega), if_neg (by omega), if_neg (by omega), if_neg (by omega), if_neg (by omega), if_neg (by omega), if_neg (by omega), if_neg (by omega), if_neg (by omega), if_neg (by omega)]; exact hrow.r1
    · rw [if_neg (by omega), if_neg (by omega), if_neg (by omega), if_neg (by omega), if_neg (by omega), if_neg (by omega), if_neg (by omega), if_neg (by omega), if_neg (by omega), if_neg (by omega), if_neg (by omega)]; exact hrow.r2
    · rw [if_neg (by omega), if_neg (by omega), if_neg (by omega), if_neg (by omega), if_neg (by omega), if_neg (by omega), if_neg (by omega), if_neg (by omega), if_neg (by omega), if_neg (by omega), if_neg (by omega)]; exact hrow.r3
    · rw [if_neg (by omega), if_neg (by omega), if_neg (by omega), if_neg (by omega), if_neg (by omega), if_neg (by omega), if_neg (by omega), if_neg (by omega), if_neg (by omega), if_neg (by omega), if_neg (by omega)]; exact hrow.r4
    · rw [if_neg (by omega), if_neg (by omega), if_neg (by omega), if_neg (by omega), if_neg (by omega), if_neg (by omega), if_neg (by omega), if_neg (by omega), if_neg (by omega), if_neg (by omega), if_neg (by omega)]; exact hrow.r5
    · rw [if_neg (by omega), if_neg (by omega), if_neg (by omega), if_neg (by omega), if_neg (by omega), if_neg (by omega), if_neg (by omega), if_neg (by omega), if_neg (by omega), if_neg (by omega), if_neg (by omega)]; exact hrow.r6
    · rw [if_neg (by omega), if_neg (by omega), if_neg (by omega), if_neg (by omega), if_neg (by omega), if_neg (by omega), if_neg (by omega), if_neg (by omega), if_neg (by omega), if_neg (by omega), if_neg (by omega)]; exact hrow.r7
    · rw [if_neg (by omega), if_neg (by omega), if_neg (by omega), if_neg (by omega), if_neg (by omega), if_neg (by omega), if_neg (by omega), if_neg (by omega), if_neg (by omega), if_neg (by omega), if_neg (by omega)]; exact hrow.r8
    · rw [if_neg (by omega), if_neg (by omega), if_neg (by omega), if_neg (by omega), if_neg (by omega), if_neg (by omega), if_neg (by omega), if_neg (by omega), if_neg (by omega), if_neg (by omega), if_neg (by omega)]; exact hrow.r9
    · rw [if_neg (by omega), if_neg (by omega), if_neg (by omega), if_neg (by omega), if_neg (by omega), if_neg (by omega), if_neg (by omega), if_neg (by omega), if_neg (by omega), if_neg (by omega), if_neg (by omega)]; exact hrow.r10
    · repeat (refine StrsIn.setCell ?_ (by simp only []; omega) _)
      exact hst

theorem FdsFill.done {wr : World} {B : Nat} {Fs : List Fd} {k : Nat} (h : FdsFill wr B Fs k) (hk : Fs.length ≤ k) (hne : Fs ≠ []) (hm : Fs.length ≤ maxLen) : FdsAt B wr (.slice (some ⟨B, 0, none⟩) Fs.length Fs.length) Fs := by
  obtain ⟨f, hr, hall⟩ := h
  refine Or.inr ⟨B, 0, Fs.length, rfl, hne, hm, hr.lt, Nat.le_refl _, Nat.le_refl _, fun i hi => ?_⟩
  obtain ⟨hz, wv, hrow, hst⟩ := hall i hi (by omega)
  refine ⟨hz, wv, ⟨?_, ?_, ?_, ?_, ?_, ?_, ?_, ?_, ?_, ?_, ?_⟩, hst.mono (by omega)⟩
  · rw [Nat.zero_add, hr.cell (by omega), hrow.r0]
  · rw [Nat.zero_add, hr.cell (by omega), hrow.r1]
  · rw [Nat.zero_add, hr.cell (by omega), hrow.r2]
  · rw [Nat.zero_add, hr.cell (by omega), hrow.r3]
  · rw [Nat.zero_add, hr.cell (by omega), hrow.r4]
  · rw [Nat.zero_add, hr.cell (by omega), hrow.r5]
  · rw [Nat.zero_add, hr.cell (by omega), hrow.r6]
  · rw [Nat.zero_add, hr.cell (by omega), hrow.r7]
  · rw [Nat.zero_add, hr.cell (by omega), hrow.r8]
  · rw [Nat.zero_add, hr.cell (by omega), hrow.r9]
  · rw [Nat.zero_add, hr.cell (by omega), hrow.r10]

theorem FdsFill.new (w : World) (Fs : List Fd) (z : Array Value) : FdsFill (w.alloc (.cells (madeCells z (Fs.length * 11)) 218)) w.heap.size Fs 0 := by
  refine ⟨fun i => (madeCells z (Fs.length * 11)).getD i default, ?_, fun i _ h => by omega⟩
  have := World.rowIs_alloc w (madeCells z (Fs.length * 11)) 218 (fun i => (madeCells z (Fs.length * 11)).getD i default) (fun i hi => by simp [Array.getD, hi])
  rwa [size_madeCells] at this

set_option maxHeartbeats 1000000 in
theorem toFds_any (lo : Nat) (v : Value) (Fs : List Fd) (w : World) (hv : FdsAt lo w v Fs) (hn : FdsSmall Fs) :
    Calls Tryz.prog 160 #[v] w fun e w' => ∃ v', e = .returned v' ∧ Below w.heap.size w w' ∧ FdsAt w.heap.size w' v' Fs := by
  obtain ⟨i0, hi, hz0, hz1, hz2⟩ := info_parts Tryz.info218
  by_cases hL : Fs = []
  · subst hL
    obtain ⟨a, cap, rfl⟩ := nil_form hv
    clear hv
    have hmk : ∀ u : World, (Instr.makeSlice 162 (.int .i64 0) (.int .i64 0)).run Tryz.prog u = .ok (.slice (some ⟨u.heap.size, 0, none⟩) 0 0) (u.alloc (.cells (madeCells (Value.cells (.agg #[.string ⟨#[]⟩, .int .i64 0, .int .i64 0, .int .i64 0, .slice none 0 0, .string ⟨#[]⟩, .int .i64 0, .bool false, .bool false, .string ⟨#[]⟩, .string ⟨#[]⟩])) 0) 218)) := fun u => by
      have h := run_make (P := Tryz.prog) u 162 218 i0 _ Tryz.underlying162 hi hz0 .i64 .i64 0 0 (by omega) (by omega) (by omega) (by omega)
      simpa [hz1] using h
    go_enter Tryz.func160, Tryz.ntmps160
    go_wp2
    go_loop [4] (fun i => i = .int .i64 0) (fun _ => 0)
    case atStart => rfl
    case round =>
      subst hrel
      go_wp2
      go_ret
      exact ⟨_, rfl, (Below.refl _ _).alloc (Nat.le_refl _) _, Or.inl ⟨_, _, rfl, rfl⟩⟩
  · obtain ⟨b, off, cap, rfl, hm, hbw, _, hc⟩ := hv.full hL
    clear hv
    obtain ⟨hn1, hn2⟩ := hn
    have HM : Hid (Fs.length ≤ maxLen) := hm
    unfold maxLen at hm
    have hmk : ∀ u : World, (Instr.makeSlice 162 (.int .i64 (Fs.length : Int)) (.int .i64 (Fs.length : Int))).run Tryz.prog u = .ok (.slice (some ⟨u.heap.size, 0, none⟩) Fs.length Fs.length) (u.alloc (.cells (madeCells (Value.cells (.agg #[.string ⟨#[]⟩, .int .i64 0, .int .i64 0, .int .i64 0, .slice none 0 0, .string ⟨#[]⟩, .int .i64 0, .bool false, .bool false, .string ⟨#[]⟩, .string ⟨#[]⟩])) (Fs.length * 11)) 218)) := fun u => by
      have h := run_make (P := Tryz.prog) u 162 218 i0 _ Tryz.underlying162 hi hz0 .i64 .i64 Fs.length Fs.length (by omega) (by omega) (by rw [hz2]; omega) (by omega)
      rw [hz1] at h
      simpa using h
    clear hi hz0 hz1 hz2
    go_enter Tryz.func160, Tryz.ntmps160
    go_wp2
    clear hmk
    go_loopw [4] (fun i wr => ∃ k : Nat, i = .int .i64 k ∧ k ≤ Fs.length ∧ Below w.heap.size w wr ∧ FdsFill wr w.heap.size Fs k) (fun i _ => Fs.length - (intOf i).toNat)
    case atStart => exact ⟨0, rfl, by omega, (Below.refl _ _).alloc (Nat.le_refl _) _, FdsFill.new w Fs _⟩
    case round =>
      obtain ⟨k, rfl, hk, hb, hf⟩ := hrel
      by_cases hlt : k < Fs.length
      · obtain ⟨hsz, wv, hcell, hst⟩ := hc k hlt
        obtain ⟨c0, c1, c2, c3, c4, c5, c6, c7, c8, c9, c10⟩ := hcell.below hb hbw
        clear hcell
        go_wp2_with fail
        refine (toField_any _ _ _ _ _ _ _ _ _ _ _ Fs[k].words _ (hst.at.below hb) (hn2 k hlt)).mono ?_
        rintro e w1 ⟨wv1, rfl, hb1, hs1⟩
        have hf1 := hf.below hb1
        have hs1' : StrsIn (w.heap.size + 1) w1 wv1 Fs[k].words := hs1.mono hf.lt
        have HST := hide (hf1.step hlt hsz hs1')
        have hB : Hid (Below w.heap.size w w1) := hb.trans (hb1.mono hb.size)
        have hfr := hf1.free
        obtain ⟨a1, n1, cap1, rfl⟩ := hs1.form
        obtain ⟨o0, ho0⟩ := hf1.there (k * 11) (by omega)
        obtain ⟨o1, ho1⟩ := hf1.there (k * 11 + 1) (by omega)
        obtain ⟨o2, ho2⟩ := hf1.there (k * 11 + 2) (by omega)
        obtain ⟨o3, ho3⟩ := hf1.there (k * 11 + 3) (by omega)
        obtain ⟨o4, ho4⟩ := hf1.there (k * 11 + 4) (by omega)
        obtain ⟨o5, ho5⟩ := hf1.there (k * 11 + 5) (by omega)
        obtain ⟨o6, ho6⟩ := hf1.there (k * 11 + 6) (by omega)
        obtain ⟨o7, ho7⟩ := hf1.there (k * 11 + 7) (by omega)
        obtain ⟨o8, ho8⟩ := hf1.there (k * 11 + 8) (by omega)
        obtain ⟨o9, ho9⟩ := hf1.there (k * 11 + 9) (by omega)
        obtain ⟨o10, ho10⟩ := hf1.there (k * 11 + 10) (by omega)
        clear hf hf1 hs1 hs1' hb1 hb hst c0 c1 c2 c3 c4 c5 c6 c7 c8 c9 c10
        go_wp2
        go_roundw
        case rel =>
          exact ⟨k + 1, by go_num, by omega, (((((((((((hB.out.setCell (Nat.le_refl _) _).setCell (Nat.le_refl _) _).setCell (Nat.le_refl _) _).setCell (Nat.le_refl _) _).setCell (Nat.le_refl _) _).setCell (Nat.le_refl _) _).setCell (Nat.le_refl _) _).setCell (Nat.le_refl _) _).setCell (Nat.le_refl _) _).setCell (Nat.le_refl _) _).setCell (Nat.le_refl _) _), HST.out⟩
        case measure => simp [intOf]; omega
      · go_wp2
        go_ret
        exact ⟨_, rfl, hb, hf.done (by omega) hL HM.out⟩
end Go.Proofs.YtfohnageehneoaaGreat

namespace Go.Proofs.YtfohnageehneoaaGreat
open Go.RowKit Go.Deep

theorem FdCells.setCell {w : World} {b o : Nat} {f : Fd} {wv : Value} (h : FdCells w b o f wv) {p : Addr} (hp : b ≠ p.block) (u : Value) : FdCells (w.setCell p u) b o f wv := by
  have e : ∀ o, (w.setCell p u).cell? ⟨b, o, none⟩ = w.cell? ⟨b, o, none⟩ := fun o => cell_setCell_ne _ _ _ _ hp
  exact ⟨by rw [e]; exact h.c0, by rw [e]; exact h.c1, by rw [e]; exact h.c2, by rw [e]; exact h.c3, by rw [e]; exact h.c4, by rw [e]; exact h.c5, by rw [e]; exact h.c6, by rw [e]; exact h.c7, by rw [e]; exact h.c8, by rw [e]; exact h.c9, by rw [e]; exact h.c10⟩
theorem FdsAt.setCell {lo : Nat} {w : World} {v : Value} {Fs : List Fd} (h : FdsAt lo w v Fs) {p : Addr} (hp : p.block < lo) (u : Value) : FdsAt lo (w.setCell p u) v Fs := by
  rcases h with h | ⟨b, off, cap, h1, h2, h3, h4, h5, h6, h7⟩
  · exact Or.inl h
  · refine Or.inr ⟨b, off, cap, h1, h2, h3, by simpa [World.setCell] using h4, h5, h6, fun i hi => ?_⟩
    obtain ⟨hs, wv, hc, hw⟩ := h7 i hi
    exact ⟨hs, wv, hc.setCell (by omega) u, hw.setCell hp u⟩

set_option maxHeartbeats 1000000 in
theorem toShape_any (lo : Nat) (kind : ByteArray) (v : Value) (Fs : List Fd) (w : World) (hv : FdsAt lo w v Fs) (hn : FdsSmall Fs) :
    Calls Tryz.prog 100 #[.agg #[.string kind, v]] w fun e w' => ∃ v', e = .returned (.agg #[.string kind, v']) ∧ Below w.heap.size w w' ∧ FdsAt w.heap.size w' v' Fs := by
  have HV := hide hv
  obtain ⟨a, cap, rfl⟩ := hv.form
  clear hv
  go_enter Tryz.func100, Tryz.ntmps100
  go_wp2_with fail
  refine (toFds_any lo _ Fs _ (HV.out.below ?_) hn).mono ?_
  · exact (((Below.refl _ _).alloc (Nat.le_refl _) _).alloc (by simp) _).alloc (by simp; omega) _
  rintro e w1 ⟨v1, rfl, hb, hs⟩
  obtain ⟨a', cap', rfl⟩ := hs.form
  have HS : Hid (FdsAt (w.heap.size + 3) w1 (.slice a' Fs.length cap') Fs) := hs.mono (by simp)
  clear hs
  have hz : w.heap.size + 2 < w1.heap.size := by have := hb.size; simp at this; omega
  obtain ⟨hc, hf⟩ := bcell hb
  have HB : Hid (Below w.heap.size w w1) := ((((Below.refl _ _).alloc (Nat.le_refl _) _).alloc (by simp) _).alloc (by simp; omega) _).trans (hb.mono (by simp; omega))
  clear hb
  go_wp2
  refine bodyPost_ret (v := .agg #[.string kind, .slice a' Fs.length cap']) (by simp [results, Tryz.results100, go_sem, hc]) rfl ⟨_, rfl, ?_, ?_⟩
  · repeat (refine Below.setCell ?_ (by simp only []; omega) _)
    exact HB.out
  · refine FdsAt.mono (lo := w.heap.size + 3) ?_ (by omega)
    repeat (refine FdsAt.setCell ?_ (by simp only []; omega) _)
    exact HS.out

def ShsFill (wr : World) (B : Nat) (Ss : List Sh) (k : Nat) : Prop :=
  ∃ f, wr.rowIs B 164 (Ss.length * 2) f ∧ ∀ i (h : i < Ss.length), i < k → Ss[i].kind.size ≤ maxLen ∧ ∃ fv, f (i * 2) = .string Ss[i].kind ∧ f (i * 2 + 1) = fv ∧ FdsAt (B + 1) wr fv Ss[i].fields

theorem ShsFill.below {wr w1 : World} {B : Nat} {Ss : List Sh} {k : Nat} (h : ShsFill wr B Ss k) (hb : Below wr.heap.size wr w1) : ShsFill w1 B Ss k := by
  obtain ⟨f, hr, hall⟩ := h
  refine ⟨f, hr.of_block (hb.block B hr.lt), fun i hi hik => ?_⟩
  obtain ⟨hs, fv, h0, h1, h2⟩ := hall i hi hik
  exact ⟨hs, fv, h0, h1, h2.below hb⟩
theorem ShsFill.free {wr : World} {B : Nat} {Ss : List Sh} {k : Nat} (h : ShsFill wr B Ss k) (i : Nat) : wr.frozen? ⟨B, i, none⟩ = false := by
  obtain ⟨f, hr, _⟩ := h
  exact hr.frozen i
theorem ShsFill.there {wr : World} {B : Nat} {Ss : List Sh} {k : Nat} (h : ShsFill wr B Ss k) (i : Nat) (hi : i < Ss.length * 2) : ∃ v, wr.cell? ⟨B, i, none⟩ = some v := by
  obtain ⟨f, hr, _⟩ := h
  exact ⟨_, hr.cell hi⟩
theorem ShsFill.lt {wr : World} {B : Nat} {Ss : List Sh} {k : Nat} (h : ShsFill wr B Ss k) : B < wr.heap.size := by
  obtain ⟨f, hr, _⟩ := h
  exact hr.lt
theorem ShsFill.step {w1 : World} {B : Nat} {Ss : List Sh} {k : Nat} {fv : Value} (h : ShsFill w1 B Ss k) (hk : k < Ss.length) (hz : Ss[k].kind.size ≤ maxLen) (hs : FdsAt (B + 1) w1 fv Ss[k].fields) :
    ShsFill ((w1.setCell ⟨B, k * 2, none⟩ (.string Ss[k].kind)).setCell ⟨B, k * 2 + 1, none⟩ fv) B Ss (k + 1) := by
  obtain ⟨f, hr, hall⟩ := h
  refine ⟨_, ((hr.set _ _).set _ _), fun i hi hik => ?_⟩
  by_cases e : i = k
  · subst e
    refine ⟨hz, fv, ?_, ?_, ?_⟩
    · simp
    · simp
    · exact (hs.setCell (by simp only []; omega) _).setCell (by simp only []; omega) _
  · obtain ⟨hz', fv', h0, h1, hst⟩ := hall i hi (by omega)
    refine ⟨hz', fv', ?_, ?_, ?_⟩
    · rw [if_neg (by omega), if_neg (by omega)]; exact h0
    · rw [if_neg (by omega), if_neg (by omega)]; exact h1
    · exact (hst.setCell (by simp only []; omega) _).setCell (by simp only []; omega) _
theorem ShsFill.done {wr : World} {B : Nat} {Ss : List Sh} {k : Nat} (h : ShsFill wr B Ss k) (hk : Ss.length ≤ k) (hne : Ss ≠ []) (hm : Ss.length ≤ maxLen) : ShsAt B wr (.slice (some ⟨B, 0, none⟩) Ss.length Ss.length) Ss := by
  obtain ⟨f, hr, hall⟩ := h
  refine Or.inr ⟨B, 0, Ss.length, rfl, hne, hm, hr.lt, Nat.le_refl _, fun i hi => ?_⟩
  obtain ⟨hz, fv, h0, h1, hst⟩ := hall i hi (by omega)
  refine ⟨hz, fv, ?_, ?_, hst.mono (by omega)⟩
  · rw [Nat.zero_add, hr.cell (by omega), h0]
  · rw [Nat.zero_add, hr.cell (by omega), h1]
theorem ShsFill.new (w : World) (Ss : List Sh) (z : Array Value) : ShsFill (w.alloc (.cells (madeCells z (Ss.length * 2)) 164)) w.heap.size Ss 0 := by
  refine ⟨fun i => (madeCells z (Ss.length * 2)).getD i default, ?_, fun i _ h => by omega⟩
  have := World.rowIs_alloc w (madeCells z (Ss.length * 2)) 164 (fun i => (madeCells z (Ss.length * 2)).getD i default) (fun i hi => by simp [Array.getD, hi])
  rwa [size_madeCells] at this

set_option maxHeartbeats 1000000 in
theorem toShs_any (lo : Nat) (v : Value) (Ss : List Sh) (w : World) (hv : ShsAt lo w v Ss) (hn : ShsSmall Ss) :
    Calls Tryz.prog 41 #[v] w fun e w' => ∃ v', e = .returned v' ∧ Below w.heap.size w w' ∧ ShsAt w.heap.size w' v' Ss := by
  obtain ⟨i0, hi, hz0, hz1, hz2⟩ := info_parts Tryz.info164
  by_cases hL : Ss = []
  · subst hL
    obtain ⟨a, cap, rfl⟩ := hv.form
    clear hv
    have hmk : ∀ u : World, (Instr.makeSlice 43 (.int .i64 0) (.int .i64 0)).run Tryz.prog u = .ok (.slice (some ⟨u.heap.size, 0, none⟩) 0 0) (u.alloc (.cells (madeCells (Value.cells (.agg #[.string ⟨#[]⟩, .slice none 0 0])) 0) 164)) := fun u => by
      have h := run_make (P := Tryz.prog) u 43 164 i0 _ Tryz.underlying43 hi hz0 .i64 .i64 0 0 (by omega) (by omega) (by omega) (by omega)
      simpa [hz1] using h
    go_enter Tryz.func41, Tryz.ntmps41
    go_wp2
    go_loop [4] (fun i => i = .int .i64 0) (fun _ => 0)
    case atStart => rfl
    case round =>
      subst hrel
      go_wp2
      go_ret
      exact ⟨_, rfl, (Below.refl _ _).alloc (Nat.le_refl _) _, Or.inl ⟨_, _, rfl, rfl⟩⟩
  · obtain ⟨b, off, cap, rfl, hm, hbw, hc⟩ := hv.full hL
    clear hv
    obtain ⟨hn1, hn2⟩ := hn
    have HM : Hid (Ss.length ≤ maxLen) := hm
    unfold maxLen at hm
    have hmk : ∀ u : World, (Instr.makeSlice 43 (.int .i64 (Ss.length : Int)) (.int .i64 (Ss.length : Int))).run Tryz.prog u = .ok (.slice (some ⟨u.heap.size, 0, none⟩) Ss.length Ss.length) (u.alloc (.cells (madeCells (Value.cells (.agg #[.string ⟨#[]⟩, .slice none 0 0])) (Ss.length * 2)) 164)) := fun u => by
      have h := run_make (P := Tryz.prog) u 43 164 i0 _ Tryz.underlying43 hi hz0 .i64 .i64 Ss.length Ss.length (by omega) (by omega) (by rw [hz2]; omega) (by omega)
      rw [hz1] at h
      simpa using h
    clear hi hz0 hz1 hz2
    go_enter Tryz.func41, Tryz.ntmps41
    go_wp2
    clear hmk
    go_loopw [4] (fun i wr => ∃ k : Nat, i = .int .i64 k ∧ k ≤ Ss.length ∧ Below w.heap.size w wr ∧ ShsFill wr w.heap.size Ss k) (fun i _ => Ss.length - (intOf i).toNat)
    case atStart => exact ⟨0, rfl, by omega, (Below.refl _ _).alloc (Nat.le_refl _) _, ShsFill.new w Ss _⟩
    case round =>
      obtain ⟨k, rfl, hk, hb, hf⟩ := hrel
      by_cases hlt : k < Ss.length
      · obtain ⟨hsz, fv, d0, d1, hst⟩ := hc k hlt
        have c0 : wr.cell? ⟨b, off + k * 2, none⟩ = some (.string Ss[k].kind) := by rw [hb.cell (p := ⟨b, _, none⟩) hbw]; exact d0
        have c1 : wr.cell? ⟨b, off + k * 2 + 1, none⟩ = some fv := by rw [hb.cell (p := ⟨b, _, none⟩) hbw]; exact d1
        clear d0 d1
        go_wp2_with fail
        refine (toShape_any lo _ _ Ss[k].fields _ (hst.below hb) (hn2 k hlt)).mono ?_
        rintro e w1 ⟨wv1, rfl, hb1, hs1⟩
        have hf1 := hf.below hb1
        have hs1' : FdsAt (w.heap.size + 1) w1 wv1 Ss[k].fields := hs1.mono hf.lt
        have HST := hide (hf1.step hlt hsz hs1')
        have hB : Hid (Below w.heap.size w w1) := hb.trans (hb1.mono hb.size)
        have hfr := hf1.free
        obtain ⟨a1, cap1, rfl⟩ := hs1.form
        obtain ⟨o0, ho0⟩ := hf1.there (k * 2) (by omega)
        obtain ⟨o1, ho1⟩ := hf1.there (k * 2 + 1) (by omega)
        clear hf hf1 hs1 hs1' hb1 hb hst c0 c1
        go_wp2
        go_roundw
        case rel =>
          exact ⟨k + 1, by go_num, by omega, ((hB.out.setCell (Nat.le_refl _) _).setCell (Nat.le_refl _) _), HST.out⟩
        case measure => simp [intOf]; omega
      · go_wp2
        go_ret
        exact ⟨_, rfl, hb, hf.done (by omega) hL HM.out⟩
end Go.Proofs.YtfohnageehneoaaGreat

namespace Go.Proofs.YtfohnageehneoaaGreat
open Go.RowKit Go.Deep

theorem range_all {n : Nat} {p : Nat → Bool} (h : ∀ i, i < n → p i = true) : (List.range n).all p = true := by
  rw [List.all_eq_true]; intro i hi; exact h i (List.mem_range.1 hi)
theorem range_not {n k : Nat} {p : Nat → Bool} (hk : k < n) (h : p k = false) : (List.range n).all p = false := by
  rw [List.all_eq_false]; exact ⟨k, List.mem_range.2 hk, by simp [h]⟩

/-- place i is a name, and above the one ahead -/
def ascAt (L : List ByteArray) (i : Nat) : Bool :=
  nameB (L.getD i ⟨#[]⟩) && (i == 0 || Op.bytesLess (L.getD (i - 1) ⟨#[]⟩).toList (L.getD i ⟨#[]⟩).toList)
def ascB (L : List ByteArray) : Bool := (List.range L.length).all (ascAt L)

theorem getD_of {L : List ByteArray} {i : Nat} (h : i < L.length) : L.getD i ⟨#[]⟩ = L[i] := by
  rw [List.getD_eq_getElem?_getD, List.getElem?_eq_getElem h]; rfl
theorem ascAt_name {L : List ByteArray} {i : Nat} (h : i < L.length) (hn : nameB L[i] = false) : ascAt L i = false := by
  unfold ascAt; rw [getD_of h, hn]; rfl
theorem ascAt_zero {L : List ByteArray} (h : 0 < L.length) (hn : nameB L[0] = true) : ascAt L 0 = true := by
  unfold ascAt; rw [getD_of h, hn]; rfl
theorem ascAt_succ {L : List ByteArray} {j : Nat} (h : j + 1 < L.length) (hn : nameB L[j + 1] = true) : ascAt L (j + 1) = Op.bytesLess L[j].toList L[j + 1].toList := by
  unfold ascAt; rw [getD_of h, hn, Nat.add_sub_cancel, getD_of (by omega)]; simp

theorem asc_one {L : List ByteArray} (h : ascAt L 0 = true) : ∀ i, i < 1 → ascAt L i = true := fun i hi => by
  have e : i = 0 := by omega
  subst e
  exact h

set_option maxHeartbeats 1000000 in
theorem l1Asc_any (v : Value) (L : List ByteArray) (w : World) (hv : StrsAt w v L) :
    Calls Tryz.prog 190 #[v] w fun e w' => e = .returned (.bool (ascB L)) ∧ Below w.heap.size w w' := by
  rcases hv with ⟨a, cap, rfl, rfl⟩ | ⟨b, off, cap, rfl, hne, hm, hbw, hc, hsz⟩
  · go_enter Tryz.func190, Tryz.ntmps190
    go_wp2
    go_loop [3] (fun i => i = .int .i64 0) (fun _ => 0)
    case atStart => rfl
    case round =>
      subst hrel
      go_wp2
      go_ret
      exact ⟨rfl, Below.refl _ _⟩
  · unfold maxLen at hm
    go_enter Tryz.func190, Tryz.ntmps190
    go_wp2
    go_loopw [3] (fun i wr => ∃ k : Nat, i = .int .i64 k ∧ k ≤ L.length ∧ Below w.heap.size w wr ∧ ∀ i, i < k → ascAt L i = true) (fun i _ => L.length - (intOf i).toNat)
    case atStart => exact ⟨0, rfl, by omega, Below.refl _ _, fun i h => by omega⟩
    case round =>
      obtain ⟨k, rfl, hk, hb, hall⟩ := hrel
      have HA := hide hall
      clear hall
      by_cases hlt : k < L.length
      · have hck : wr.cell? ⟨b, off + k, none⟩ = some (.string L[k]) := by rw [hb.cell (p := ⟨b, _, none⟩) hbw]; exact hc k hlt
        have hskk := hsz L[k] (List.getElem_mem hlt)
        by_cases hn : nameB L[k] = true
        · cases k with
          | zero =>
            have HX := hide (ascAt_zero hlt hn)
            have hck0 : wr.cell? ⟨b, off, none⟩ = some (.string L[0]) := by simpa using hck
            clear hck
            go_wp2
            go_quiet ((go_at_call 37; exact Calls.quiet_of_same (nameOk_any _ _ hskk)))
            go_wp2
            go_roundw
            case rel => exact ⟨1, by go_num, by omega, below_drewN hb _, asc_one HX.out⟩
            case measure => simp [intOf]; omega
          | succ j =>
            have HX := hide (ascAt_succ hlt hn)
            have hcj : wr.cell? ⟨b, off + j, none⟩ = some (.string L[j]) := by rw [hb.cell (p := ⟨b, _, none⟩) hbw]; exact hc j (by omega)
            by_cases hls : Op.bytesLess L[j].toList L[j + 1].toList = true
            · go_wp2
              go_quiet ((go_at_call 37; exact Calls.quiet_of_same (nameOk_any _ _ hskk)))
              go_wp2
              go_roundw
              case rel => exact ⟨j + 2, by go_num, by omega, below_drewN hb _, fun i hi => by
                            by_cases e : i = j + 1
                            · subst e; rw [HX.out]; exact hls
                            · exact HA.out i (by omega)⟩
              case measure => simp [intOf]; omega
            · have hls' : Op.bytesLess L[j].toList L[j + 1].toList = false := by simpa using hls
              clear hls
              go_wp2
              go_quiet ((go_at_call 37; exact Calls.quiet_of_same (nameOk_any _ _ hskk)))
              go_wp2
              go_ret
              exact ⟨ret_bool (range_not hlt (by rw [HX.out]; exact hls')).symm, below_drewN hb _⟩
        · have hn' : nameB L[k] = false := by simpa using hn
          have HX := hide (ascAt_name hlt hn')
          go_wp2
          go_quiet ((go_at_call 37; exact Calls.quiet_of_same (nameOk_any _ _ hskk)))
          go_wp2
          go_ret
          exact ⟨ret_bool (range_not hlt HX.out).symm, below_drewN hb _⟩
      · go_wp2
        go_ret
        exact ⟨ret_bool (range_all (fun i hi => HA.out i (by omega))).symm, hb⟩

set_option maxHeartbeats 1000000 in
theorem ascNames_any (v : Value) (L : List ByteArray) (w : World) (hv : StrsAt w v L) :
    Calls Tryz.prog 292 #[v] w fun e w' => e = .returned (.bool (ascB L)) ∧ w' = w := by
  rcases hv with ⟨a, cap, rfl, rfl⟩ | ⟨b, off, cap, rfl, hne, hm, hbw, hc, hsz⟩
  · go_enter Tryz.func292, Tryz.ntmps292
    go_wp2
    go_loop [7] (fun i => i = .int .i64 0) (fun _ => 0)
    case atStart => rfl
    case round =>
      subst hrel
      go_wp2
      go_ret
      exact ⟨rfl, rfl⟩
  · unfold maxLen at hm
    go_enter Tryz.func292, Tryz.ntmps292
    go_wp2
    go_loop [7] (fun i => ∃ k : Nat, i = .int .i64 k ∧ k ≤ L.length ∧ ∀ i, i < k → ascAt L i = true) (fun i => L.length - (intOf i).toNat)
    case atStart => exact ⟨0, rfl, by omega, fun i h => by omega⟩
    case round =>
      obtain ⟨k, rfl, hk, hall⟩ := hrel
      have HA := hide hall
      clear hall
      by_cases hlt : k < L.length
      · have hck := hc k hlt
        have HSK := hide (hsz L[k] (List.getElem_mem hlt))
        by_cases hn : nameB L[k] = true
        · cases k with
          | zero =>
            have HX := hide (ascAt_zero hlt hn)
            have hck0 : w.cell? ⟨b, off, none⟩ = some (.string L[0]) := by simpa using hck
            clear hck
            go_wp2_with fail
            refine (isName_any _ _ HSK.out).mono ?_
            rintro e w1 ⟨rfl, rfl⟩
            go_wp2
            go_round
            case rel => exact ⟨1, by go_num, by omega, asc_one HX.out⟩
            case measure => simp [intOf]; omega
          | succ j =>
            have HX := hide (ascAt_succ hlt hn)
            have hcj := hc j (by omega)
            by_cases hls : Op.bytesLess L[j].toList L[j + 1].toList = true
            · go_wp2_with fail
              refine (isName_any _ _ HSK.out).mono ?_
              rintro e w1 ⟨rfl, rfl⟩
              go_wp2
              go_round
              case rel => exact ⟨j + 2, by go_num, by omega, fun i hi => by
                            by_cases e : i = j + 1
                            · subst e; rw [HX.out]; exact hls
                            · exact HA.out i (by omega)⟩
              case measure => simp [intOf]; omega
            · have hls' : Op.bytesLess L[j].toList L[j + 1].toList = false := by simpa using hls
              clear hls
              go_wp2_with fail
              refine (isName_any _ _ HSK.out).mono ?_
              rintro e w1 ⟨rfl, rfl⟩
              go_wp2
              go_ret
              exact ⟨ret_bool (range_not hlt (by rw [HX.out]; exact hls')).symm, rfl⟩
        · have hn' : nameB L[k] = false := by simpa using hn
          have HX := hide (ascAt_name hlt hn')
          go_wp2_with fail
          refine (isName_any _ _ HSK.out).mono ?_
          rintro e w1 ⟨rfl, rfl⟩
          go_wp2
          go_ret
          exact ⟨ret_bool (range_not hlt HX.out).symm, rfl⟩
      · go_wp2
        go_ret
        exact ⟨ret_bool (range_all (fun i hi => HA.out i (by omega))).symm, rfl⟩
end Go.Proofs.YtfohnageehneoaaGreat

namespace Go.Proofs.YtfohnageehneoaaGreat
open Go.RowKit Go.Deep

theorem cell_set_ne (w : World) (p q : Addr) (u : Value) (h : p ≠ q) : (w.setCell p u).cell? q = w.cell? q := by
  apply World.cell?_setCell_other; exact h
theorem cell_set_eq (w : World) (p : Addr) (u v : Value) (h : w.cell? p = some v) : (w.setCell p u).cell? p = some u := by
  apply World.cell?_setCell_same; exact h

def shOf (Ss : List Sh) (s : ByteArray) : Option Sh := Ss.find? fun x => x.kind.toList == s.toList
def hasK (Ss : List Sh) (s : ByteArray) : Bool := (shOf Ss s).isSome

theorem shOf_some {Ss : List Sh} {s : ByteArray} {k : Nat} (hk : k < Ss.length) (h : (Ss[k].kind.toList == s.toList) = true) (hall : ∀ i (h : i < Ss.length), i < k → (Ss[i].kind.toList == s.toList) = false) : shOf Ss s = some Ss[k] := by
  unfold shOf
  rw [List.find?_eq_some_iff_getElem]
  exact ⟨h, k, hk, rfl, fun j hj => by simp [hall j (by omega) hj]⟩
theorem shOf_none {Ss : List Sh} {s : ByteArray} (hall : ∀ i (h : i < Ss.length), (Ss[i].kind.toList == s.toList) = false) : shOf Ss s = none := by
  unfold shOf
  rw [List.find?_eq_none]
  intro x hx
  obtain ⟨i, hi, rfl⟩ := List.getElem_of_mem hx
  simp [hall i hi]
theorem hasK_some {Ss : List Sh} {s : ByteArray} {x : Sh} (h : shOf Ss s = some x) : hasK Ss s = true := by unfold hasK; rw [h]; rfl
theorem hasK_none {Ss : List Sh} {s : ByteArray} (h : shOf Ss s = none) : hasK Ss s = false := by unfold hasK; rw [h]; rfl

set_option maxHeartbeats 400000 in
theorem l1Shape_any (lo : Nat) (v : Value) (Ss : List Sh) (s : ByteArray) (w : World) (hv : ShsAt lo w v Ss) :
    Calls Tryz.prog 189 #[v, .string s] w fun e w' => ∃ r : Int, e = .returned (.int .i64 r) ∧ w' = w ∧ decide (0 ≤ r) = hasK Ss s := by
  by_cases hL : Ss = []
  · subst hL
    obtain ⟨a, cap, rfl⟩ := hv.form
    clear hv
    go_enter Tryz.func189, Tryz.ntmps189
    go_wp2
    go_loop [5] (fun i => i = .int .i64 0) (fun _ => 0)
    case atStart => rfl
    case round =>
      subst hrel
      go_wp2
      go_ret
      exact ⟨-1, rfl, rfl, rfl⟩
  · obtain ⟨b, off, cap, rfl, hm, hbw, hc⟩ := hv.full hL
    clear hv
    unfold maxLen at hm
    go_enter Tryz.func189, Tryz.ntmps189
    go_wp2
    go_loop [5] (fun i => ∃ k : Nat, i = .int .i64 k ∧ k ≤ Ss.length ∧ ∀ i (h : i < Ss.length), i < k → (Ss[i].kind.toList == s.toList) = false) (fun i => Ss.length - (intOf i).toNat)
    case atStart => exact ⟨0, rfl, by omega, fun i _ h => by omega⟩
    case round =>
      obtain ⟨k, rfl, hk, hall⟩ := hrel
      have HA := hide hall
      clear hall
      by_cases hlt : k < Ss.length
      · obtain ⟨_, fv, hck, _, _⟩ := hc k hlt
        by_cases he : (Ss[k].kind.toList == s.toList) = true
        · go_wp2
          go_ret
          exact ⟨k, rfl, rfl, by rw [hasK_some (shOf_some hlt he HA.out)]; simp⟩
        · have he' : (Ss[k].kind.toList == s.toList) = false := by simpa using he
          clear he
          go_wp2
          go_round
          case rel => exact ⟨k + 1, by go_num, by omega, fun i h h' => by
                        by_cases e : i = k
                        · subst e; exact he'
                        · exact HA.out i h (by omega)⟩
          case measure => simp [intOf]; omega
      · go_wp2
        go_ret
        exact ⟨-1, rfl, rfl, by rw [hasK_none (shOf_none fun i h => HA.out i h (by omega))]; rfl⟩

/-- what gateShapeOf tells -/
def ShapeOf (lo : Nat) (Ss : List Sh) (s : ByteArray) (e : Ending) (w' : World) : Prop :=
  (∃ x fv, shOf Ss s = some x ∧ e = .returned (.tuple #[.agg #[.string x.kind, fv], .bool true]) ∧ FdsAt lo w' fv x.fields) ∨
  (shOf Ss s = none ∧ e = .returned (.tuple #[.agg #[.string ⟨#[]⟩, .slice none 0 0], .bool false]))

set_option maxHeartbeats 400000 in
theorem shapeOf_any (lo : Nat) (v : Value) (Ss : List Sh) (s : ByteArray) (w : World) (hv : ShsAt lo w v Ss) :
    Calls Tryz.prog 226 #[v, .string s] w fun e w' => Below w.heap.size w w' ∧ ShapeOf lo Ss s e w' := by
  by_cases hL : Ss = []
  · subst hL
    obtain ⟨a, cap, rfl⟩ := hv.form
    clear hv
    go_enter Tryz.func226, Tryz.ntmps226
    go_wp2
    go_loop [10] (fun i => i = .int .i64 0) (fun _ => 0)
    case atStart => rfl
    case round =>
      subst hrel
      go_wp2
      refine bodyPost_ret (v := .tuple #[.agg #[.string ⟨#[]⟩, .slice none 0 0], .bool false]) (by simp [results, Tryz.results226, go_sem]) rfl ⟨?_, Or.inr ⟨rfl, rfl⟩⟩
      exact (Below.refl _ _).alloc (Nat.le_refl _) _
  · obtain ⟨b, off, cap, rfl, hm, hbw, hc⟩ := hv.full hL
    clear hv
    unfold maxLen at hm
    have hA : ∀ (o : Obj) (wr : World), Below (w.heap.size + 1) (w.alloc o) wr → Below w.heap.size w wr := fun o wr h => ((Below.refl _ _).alloc (Nat.le_refl _) o).trans (h.mono (by omega))
    go_enter Tryz.func226, Tryz.ntmps226
    go_wp2
    go_loopw [10] (fun i wr => ∃ k : Nat, i = .int .i64 k ∧ k ≤ Ss.length ∧ Below (w.heap.size + 1) (w.alloc (.cells #[.string ⟨#[]⟩, .slice none 0 0] 164)) wr ∧ ∀ i (h : i < Ss.length), i < k → (Ss[i].kind.toList == s.toList) = false) (fun i _ => Ss.length - (intOf i).toNat)
    case atStart => exact ⟨0, rfl, by omega, Below.refl _ _, fun i _ h => by omega⟩
    case round =>
      obtain ⟨k, rfl, hk, hb, hall⟩ := hrel
      have HA := hide hall
      clear hall
      have hz : w.heap.size < wr.heap.size := by have := hb.size; simp at this; omega
      have hB : Hid (Below w.heap.size w wr) := hA _ _ hb
      have q0 : wr.cell? ⟨w.heap.size, 0, none⟩ = some (.string ⟨#[]⟩) := by rw [hb.cell (p := ⟨w.heap.size, _, none⟩) (by simp)]; simp
      have q1 : wr.cell? ⟨w.heap.size, 1, none⟩ = some (.slice none 0 0) := by rw [hb.cell (p := ⟨w.heap.size, _, none⟩) (by simp)]; simp
      have qf : ∀ o, wr.frozen? ⟨w.heap.size, o, none⟩ = false := fun o => by rw [hb.frozen (p := ⟨w.heap.size, _, none⟩) (by simp)]; simp
      have HBB := hide hb
      clear hb
      by_cases hlt : k < Ss.length
      · obtain ⟨_, fv, c0, c1, hst⟩ := hc k hlt
        have e0 : wr.cell? ⟨b, off + k * 2, none⟩ = some (.string Ss[k].kind) := by rw [hB.out.cell (p := ⟨b, _, none⟩) hbw]; exact c0
        have e1 : wr.cell? ⟨b, off + k * 2 + 1, none⟩ = some fv := by rw [hB.out.cell (p := ⟨b, _, none⟩) hbw]; exact c1
        obtain ⟨a1, cap1, rfl⟩ := hst.form
        have HST := hide hst
        clear c0 c1 hst
        by_cases he : (Ss[k].kind.toList == s.toList) = true
        · go_wp2
          have HF : Below w.heap.size w (((wr.setCell ⟨w.heap.size, 0, none⟩ (.string Ss[k].kind)).setCell ⟨w.heap.size, 1, none⟩ (.slice a1 Ss[k].fields.length cap1)).alloc (.cells #[.string Ss[k].kind, .slice a1 Ss[k].fields.length cap1] 164)) :=
            ((hB.out.setCell (Nat.le_refl _) _).setCell (Nat.le_refl _) _).alloc (by simp [World.setCell]; omega) _
          have hold : ∀ (X : World) (o : Obj) (j : Nat), w.heap.size < X.heap.size → (X.alloc o).cell? ⟨w.heap.size, j, none⟩ = X.cell? ⟨w.heap.size, j, none⟩ := fun X o j h => ((Below.refl X.heap.size X).alloc (Nat.le_refl _) o).cell (p := ⟨w.heap.size, j, none⟩) h
          have f0 : (((wr.setCell ⟨w.heap.size, 0, none⟩ (.string Ss[k].kind)).setCell ⟨w.heap.size, 1, none⟩ (.slice a1 Ss[k].fields.length cap1)).alloc (.cells #[.string Ss[k].kind, .slice a1 Ss[k].fields.length cap1] 164)).cell? ⟨w.heap.size, 0, none⟩ = some (.string Ss[k].kind) := by
            rw [hold _ _ _ (by simpa [World.setCell] using hz), cell_set_ne _ _ _ _ (by simp), cell_set_eq _ _ _ _ q0]
          have f1 : (((wr.setCell ⟨w.heap.size, 0, none⟩ (.string Ss[k].kind)).setCell ⟨w.heap.size, 1, none⟩ (.slice a1 Ss[k].fields.length cap1)).alloc (.cells #[.string Ss[k].kind, .slice a1 Ss[k].fields.length cap1] 164)).cell? ⟨w.heap.size, 1, none⟩ = some (.slice a1 Ss[k].fields.length cap1) := by
            rw [hold _ _ _ (by simpa [World.setCell] using hz), cell_set_eq _ _ _ _ (by rw [cell_set_ne _ _ _ _ (by simp)]; exact q1)]
          exact bodyPost_ret (v := .tuple #[.agg #[.string Ss[k].kind, .slice a1 Ss[k].fields.length cap1], .bool true]) (by simp [results, Tryz.results226, go_sem, f0, f1]) rfl ⟨HF, Or.inl ⟨Ss[k], _, shOf_some hlt he HA.out, rfl, HST.out.below HF⟩⟩
        · have he' : (Ss[k].kind.toList == s.toList) = false := by simpa using he
          clear he
          go_wp2
          go_roundw
          case rel => exact ⟨k + 1, by go_num, by omega, HBB.out.alloc (by omega) _, fun i h h' => by
                        by_cases e : i = k
                        · subst e; exact he'
                        · exact HA.out i h (by omega)⟩
          case measure => simp [intOf]; omega
      · go_wp2
        refine bodyPost_ret (v := .tuple #[.agg #[.string ⟨#[]⟩, .slice none 0 0], .bool false]) (by simp [results, Tryz.results226, go_sem, q0, q1]) rfl ⟨?_, Or.inr ⟨shOf_none fun i h => HA.out i h (by omega), rfl⟩⟩
        exact (hB.out.setCell (Nat.le_refl _) _).setCell (Nat.le_refl _) _
end Go.Proofs.YtfohnageehneoaaGreat

