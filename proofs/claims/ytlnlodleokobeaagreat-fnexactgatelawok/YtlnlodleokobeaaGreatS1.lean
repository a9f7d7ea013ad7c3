import Derived.Test.YtlnlodleokobeaaGreatW10
namespace Go.Proofs.YtlnlodleokobeaaGreat
open Go.RowKit Go.Deep

/-- a field -/
structure Fd where
  nm : ByteArray
  kd : Int
  le : Int
  mo : Int
  words : List ByteArray
  to : ByteArray
  ro : Int
  mu : Bool
  fx : Bool
  df : ByteArray
  we : ByteArray

/-- THE ELEVEN CELLS OF A FIELD, from place o of block b on. -/
structure FdCells (w : World) (b o : Nat) (f : Fd) (wv : Value) : Prop where
  c0 : w.cell? ⟨b, o, none⟩ = some (.string f.nm)
  c1 : w.cell? ⟨b, o + 1, none⟩ = some (.int .i64 f.kd)
  c2 : w.cell? ⟨b, o + 2, none⟩ = some (.int .i64 f.le)
  c3 : w.cell? ⟨b, o + 3, none⟩ = some (.int .i64 f.mo)
  c4 : w.cell? ⟨b, o + 4, none⟩ = some wv
  c5 : w.cell? ⟨b, o + 5, none⟩ = some (.string f.to)
  c6 : w.cell? ⟨b, o + 6, none⟩ = some (.int .i64 f.ro)
  c7 : w.cell? ⟨b, o + 7, none⟩ = some (.bool f.mu)
  c8 : w.cell? ⟨b, o + 8, none⟩ = some (.bool f.fx)
  c9 : w.cell? ⟨b, o + 9, none⟩ = some (.string f.df)
  c10 : w.cell? ⟨b, o + 10, none⟩ = some (.string f.we)

structure FdSize (f : Fd) : Prop where
  s0 : f.nm.size ≤ maxLen
  s5 : f.to.size ≤ maxLen
  s9 : f.df.size ≤ maxLen
  s10 : f.we.size ≤ maxLen

theorem FdCells.below {w w' : World} {b o : Nat} {f : Fd} {wv : Value} (h : FdCells w b o f wv) (hb : Below w.heap.size w w') (hlt : b < w.heap.size) : FdCells w' b o f wv := by
  have e : ∀ o, w'.cell? ⟨b, o, none⟩ = w.cell? ⟨b, o, none⟩ := fun o => hb.cell (p := ⟨b, o, none⟩) hlt
  exact ⟨by rw [e]; exact h.c0, by rw [e]; exact h.c1, by rw [e]; exact h.c2, by rw [e]; exact h.c3, by rw [e]; exact h.c4, by rw [e]; exact h.c5, by rw [e]; exact h.c6, by rw [e]; exact h.c7, by rw [e]; exact h.c8, by rw [e]; exact h.c9, by rw [e]; exact h.c10⟩

/-- A []GateField THAT HOLDS Fs; its cells lie from block lo on. -/
def FdsAt (lo : Nat) (w : World) (v : Value) (Fs : List Fd) : Prop :=
  (∃ (a : Option Addr) (cap : Nat), v = .slice a 0 cap ∧ Fs = []) ∨
  ∃ (b off cap : Nat), v = .slice (some ⟨b, off, none⟩) Fs.length cap ∧ Fs ≠ [] ∧ Fs.length ≤ maxLen ∧ b < w.heap.size ∧ lo ≤ b ∧ Fs.length ≤ cap ∧
    ∀ i (h : i < Fs.length), FdSize Fs[i] ∧ ∃ wv, FdCells w b (off + i * 11) Fs[i] wv ∧ StrsIn lo w wv Fs[i].words

theorem FdsAt.below {lo : Nat} {w w' : World} {v : Value} {Fs : List Fd} (h : FdsAt lo w v Fs) (hb : Below w.heap.size w w') : FdsAt lo w' v Fs := by
  rcases h with h | ⟨b, off, cap, h1, h2, h3, h4, h5, h6, h7⟩
  · exact Or.inl h
  · refine Or.inr ⟨b, off, cap, h1, h2, h3, Nat.lt_of_lt_of_le h4 hb.size, h5, h6, fun i hi => ?_⟩
    obtain ⟨hs, wv, hc, hw⟩ := h7 i hi
    exact ⟨hs, wv, hc.below hb h4, hw.below hb⟩
theorem FdsAt.mono {lo lo' : Nat} {w : World} {v : Value} {Fs : List Fd} (h : FdsAt lo w v Fs) (hl : lo' ≤ lo) : FdsAt lo' w v Fs := by
  rcases h with h | ⟨b, off, cap, h1, h2, h3, h4, h5, h6, h7⟩
  · exact Or.inl h
  · refine Or.inr ⟨b, off, cap, h1, h2, h3, h4, Nat.le_trans hl h5, h6, fun i hi => ?_⟩
    obtain ⟨hs, wv, hc, hw⟩ := h7 i hi
    exact ⟨hs, wv, hc, hw.mono hl⟩
theorem FdsAt.form {lo : Nat} {w : World} {v : Value} {Fs : List Fd} (h : FdsAt lo w v Fs) : ∃ a cap, v = .slice a Fs.length cap := by
  rcases h with ⟨a, cap, h, rfl⟩ | ⟨b, off, cap, h, _⟩
  · exact ⟨a, cap, h⟩
  · exact ⟨_, cap, h⟩

def FdsSmall (Fs : List Fd) : Prop := Fs.length ≤ 1048576 ∧ ∀ i (h : i < Fs.length), Fs[i].words.length ≤ 1048576
def SzFds (Fs : List Fd) (left r : Int) : Prop := -1 ≤ r ∧ r ≤ left ∧ (0 ≤ r → FdsSmall Fs)

set_option maxHeartbeats 1000000 in
theorem szFds_any (lo : Nat) (v : Value) (Fs : List Fd) (left : Int) (w : World) (h0 : 0 ≤ left) (h1 : left ≤ 1048576) (hv : FdsAt lo w v Fs) :
    Calls Tryz.prog 142 #[v, .int .i64 left] w fun e w' => ∃ r : Int, e = .returned (.int .i64 r) ∧ Below w.heap.size w w' ∧ SzFds Fs left r := by
  rcases hv with ⟨a, cap, rfl, rfl⟩ | ⟨b, off, cap, rfl, hne, hm, hbw, _, _, hc⟩
  · go_enter Tryz.func142, Tryz.ntmps142
    go_wp2
    go_loop [1, 5] (fun l i => ∃ r : Int, l = .int .i64 r ∧ 0 ≤ r ∧ r ≤ left ∧ i = .int .i64 0) (fun _ _ => 0)
    case atStart => exact ⟨_, rfl, by omega, by omega, rfl⟩
    case round =>
      obtain ⟨r, rfl, hr0, hr1, rfl⟩ := hrel
      go_wp2
      go_ret
      exact ⟨r, rfl, Below.refl _ _, by omega, by omega, fun _ => ⟨by simp, fun i h => absurd h (by simp)⟩⟩
  · unfold maxLen at hm
    by_cases hle : (Fs.length : Int) ≤ left
    · go_enter Tryz.func142, Tryz.ntmps142
      go_wp2
      go_loopw [1, 5] (fun l i wr => ∃ (r : Int) (k : Nat), l = .int .i64 r ∧ 0 ≤ r ∧ r ≤ left ∧ i = .int .i64 k ∧ k ≤ Fs.length ∧ Below w.heap.size w wr ∧ ∀ i (h : i < Fs.length), i < k → Fs[i].words.length ≤ 1048576) (fun _ i _ => Fs.length - (intOf i).toNat)
      case atStart => exact ⟨_, 0, rfl, by omega, by omega, rfl, by omega, Below.refl _ _, fun i h h' => by omega⟩
      case round =>
        obtain ⟨r, k, rfl, hr0, hr1, rfl, hk, hb, hall⟩ := hrel
        have HA := hide hall
        clear hall
        by_cases hlt : k < Fs.length
        · obtain ⟨hsz, wv, hcell, hst⟩ := hc k hlt
          have hcell := hcell.below hb hbw
          obtain ⟨c0, c1, c2, c3, c4, c5, c6, c7, c8, c9, c10⟩ := hcell
          go_wp2_with fail
          refine (szField_any _ _ _ _ _ _ _ _ _ _ _ Fs[k].words _ _ (hst.at.below hb) hr0 (by omega) hsz.s0 hsz.s5 hsz.s9 hsz.s10).mono ?_
          rintro e w1 ⟨r1, rfl, hb1, q0, q1, q2⟩
          have hB : Hid (Below w.heap.size w w1) := hb.trans (hb1.mono hb.size)
          clear hb1 c0 c1 c2 c3 c4 c5 c6 c7 c8 c9 c10 hb
          go_wp2
          all_goals first
            | (go_roundw
               case rel => exact ⟨_, k + 1, rfl, by omega, by omega, by go_num, by omega, hB.out, fun i h h' => by
                              by_cases e : i = k
                              · subst e; have := q2 (by omega); omega
                              · exact HA.out i h (by omega)⟩
               case measure => simp [intOf]; omega)
            | (go_ret
               exact ⟨-1, rfl, hB.out, by omega, by omega, fun h => by omega⟩)
        · go_wp2
          go_ret
          exact ⟨r, rfl, hb, by omega, by omega, fun _ => ⟨by omega, fun i h => HA.out i h (by omega)⟩⟩
    · go_enter Tryz.func142, Tryz.ntmps142
      go_wp2
      go_ret
      exact ⟨-1, rfl, Below.refl _ _, by omega, by omega, fun h => by omega⟩

/-- a shape -/
structure Sh where
  kind : ByteArray
  fields : List Fd

/-- A []GateShape THAT HOLDS Ss; its cells lie from block lo on. -/
def ShsAt (lo : Nat) (w : World) (v : Value) (Ss : List Sh) : Prop :=
  (∃ (a : Option Addr) (cap : Nat), v = .slice a 0 cap ∧ Ss = []) ∨
  ∃ (b off cap : Nat), v = .slice (some ⟨b, off, none⟩) Ss.length cap ∧ Ss ≠ [] ∧ Ss.length ≤ maxLen ∧ b < w.heap.size ∧ lo ≤ b ∧
    ∀ i (h : i < Ss.length), Ss[i].kind.size ≤ maxLen ∧ ∃ fv, w.cell? ⟨b, off + i * 2, none⟩ = some (.string Ss[i].kind) ∧ w.cell? ⟨b, off + i * 2 + 1, none⟩ = some fv ∧ FdsAt lo w fv Ss[i].fields

theorem ShsAt.below {lo : Nat} {w w' : World} {v : Value} {Ss : List Sh} (h : ShsAt lo w v Ss) (hb : Below w.heap.size w w') : ShsAt lo w' v Ss := by
  rcases h with h | ⟨b, off, cap, h1, h2, h3, h4, h5, h7⟩
  · exact Or.inl h
  · refine Or.inr ⟨b, off, cap, h1, h2, h3, Nat.lt_of_lt_of_le h4 hb.size, h5, fun i hi => ?_⟩
    obtain ⟨hs, fv, hc, hc', hw⟩ := h7 i hi
    exact ⟨hs, fv, by rw [hb.cell (p := ⟨b, _, none⟩) h4]; exact hc, by rw [hb.cell (p := ⟨b, _, none⟩) h4]; exact hc', hw.below hb⟩
theorem ShsAt.mono {lo lo' : Nat} {w : World} {v : Value} {Ss : List Sh} (h : ShsAt lo w v Ss) (hl : lo' ≤ lo) : ShsAt lo' w v Ss := by
  rcases h with h | ⟨b, off, cap, h1, h2, h3, h4, h5, h7⟩
  · exact Or.inl h
  · refine Or.inr ⟨b, off, cap, h1, h2, h3, h4, Nat.le_trans hl h5, fun i hi => ?_⟩
    obtain ⟨hs, fv, hc, hc', hw⟩ := h7 i hi
    exact ⟨hs, fv, hc, hc', hw.mono hl⟩
theorem ShsAt.form {lo : Nat} {w : World} {v : Value} {Ss : List Sh} (h : ShsAt lo w v Ss) : ∃ a cap, v = .slice a Ss.length cap := by
  rcases h with ⟨a, cap, h, rfl⟩ | ⟨b, off, cap, h, _⟩
  · exact ⟨a, cap, h⟩
  · exact ⟨_, cap, h⟩

def ShsSmall (Ss : List Sh) : Prop := Ss.length ≤ 1048576 ∧ ∀ i (h : i < Ss.length), FdsSmall Ss[i].fields
def SzShs (Ss : List Sh) (left r : Int) : Prop := -1 ≤ r ∧ r ≤ left ∧ (0 ≤ r → ShsSmall Ss)

set_option maxHeartbeats 1000000 in
theorem szShape_any (lo : Nat) (kind : ByteArray) (v : Value) (Fs : List Fd) (left : Int) (w : World) (h0 : 0 ≤ left) (h1 : left ≤ 1048576) (hv : FdsAt lo w v Fs) (hs : kind.size ≤ maxLen) :
    Calls Tryz.prog 76 #[.agg #[.string kind, v], .int .i64 left] w fun e w' => ∃ r : Int, e = .returned (.int .i64 r) ∧ Below w.heap.size w w' ∧ SzFds Fs left r := by
  have HV := hide hv
  obtain ⟨a, cap, rfl⟩ := hv.form
  clear hv
  unfold maxLen at hs
  have HW : ∀ o, Hid (Below w.heap.size w (w.alloc o)) := fun o => (Below.refl _ _).alloc (Nat.le_refl _) _
  by_cases c1 : (kind.size : Int) ≤ left
  · go_enter Tryz.func76, Tryz.ntmps76
    go_wp2_with fail
    refine (szFds_any lo _ Fs _ _ (by omega) (by omega) (HV.out.below (HW _).out)).mono ?_
    rintro e w1 ⟨r, rfl, hb1, q0, q1, q2⟩
    have hB : Hid (Below w.heap.size w w1) := (HW _).out.trans (hb1.mono (by simp))
    have HQ := hide q2
    clear hb1 q2
    go_wp2
    all_goals go_ret
    all_goals first
      | exact ⟨_, rfl, hB.out, by omega, by omega, HQ.out⟩
      | exact ⟨-1, rfl, hB.out, by omega, by omega, fun h => by omega⟩
  · go_enter Tryz.func76, Tryz.ntmps76
    go_wp2
    go_ret
    exact ⟨-1, rfl, (HW _).out, by omega, by omega, fun h => by omega⟩

set_option maxHeartbeats 1000000 in
theorem szShs_any (lo : Nat) (v : Value) (Ss : List Sh) (left : Int) (w : World) (h0 : 0 ≤ left) (h1 : left ≤ 1048576) (hv : ShsAt lo w v Ss) :
    Calls Tryz.prog 24 #[v, .int .i64 left] w fun e w' => ∃ r : Int, e = .returned (.int .i64 r) ∧ Below w.heap.size w w' ∧ SzShs Ss left r := by
  rcases hv with ⟨a, cap, rfl, rfl⟩ | ⟨b, off, cap, rfl, hne, hm, hbw, _, hc⟩
  · go_enter Tryz.func24, Tryz.ntmps24
    go_wp2
    go_loop [1, 5] (fun l i => ∃ r : Int, l = .int .i64 r ∧ 0 ≤ r ∧ r ≤ left ∧ i = .int .i64 0) (fun _ _ => 0)
    case atStart => exact ⟨_, rfl, by omega, by omega, rfl⟩
    case round =>
      obtain ⟨r, rfl, hr0, hr1, rfl⟩ := hrel
      go_wp2
      go_ret
      exact ⟨r, rfl, Below.refl _ _, by omega, by omega, fun _ => ⟨by simp, fun i h => absurd h (by simp)⟩⟩
  · unfold maxLen at hm
    by_cases hle : (Ss.length : Int) ≤ left
    · go_enter Tryz.func24, Tryz.ntmps24
      go_wp2
      go_loopw [1, 5] (fun l i wr => ∃ (r : Int) (k : Nat), l = .int .i64 r ∧ 0 ≤ r ∧ r ≤ left ∧ i = .int .i64 k ∧ k ≤ Ss.length ∧ Below w.heap.size w wr ∧ ∀ i (h : i < Ss.length), i < k → FdsSmall Ss[i].fields) (fun _ i _ => Ss.length - (intOf i).toNat)
      case atStart => exact ⟨_, 0, rfl, by omega, by omega, rfl, by omega, Below.refl _ _, fun i h h' => by omega⟩
      case round =>
        obtain ⟨r, k, rfl, hr0, hr1, rfl, hk, hb, hall⟩ := hrel
        have HA := hide hall
        clear hall
        by_cases hlt : k < Ss.length
        · obtain ⟨hsz, fv, c0, c1, hst⟩ := hc k hlt
          have c0' : wr.cell? ⟨b, off + k * 2, none⟩ = some (.string Ss[k].kind) := by rw [hb.cell (p := ⟨b, _, none⟩) hbw]; exact c0
          have c1' : wr.cell? ⟨b, off + k * 2 + 1, none⟩ = some fv := by rw [hb.cell (p := ⟨b, _, none⟩) hbw]; exact c1
          clear c0 c1
          go_wp2_with fail
          refine (szShape_any lo _ _ Ss[k].fields _ _ hr0 (by omega) (hst.below hb) hsz).mono ?_
          rintro e w1 ⟨r1, rfl, hb1, q0, q1, q2⟩
          have hB : Hid (Below w.heap.size w w1) := hb.trans (hb1.mono hb.size)
          have HQ := hide q2
          clear hb1 c0' c1' hb q2
          go_wp2
          all_goals first
            | (go_roundw
               case rel => exact ⟨_, k + 1, rfl, by omega, by omega, by go_num, by omega, hB.out, fun i h h' => by
                              by_cases e : i = k
                              · subst e; exact HQ.out (by omega)
                              · exact HA.out i h (by omega)⟩
               case measure => simp [intOf]; omega)
            | (go_ret
               exact ⟨-1, rfl, hB.out, by omega, by omega, fun h => by omega⟩)
        · go_wp2
          go_ret
          exact ⟨r, rfl, hb, by omega, by omega, fun _ => ⟨by omega, fun i h => HA.out i h (by omega)⟩⟩
    · go_enter Tryz.func24, Tryz.ntmps24
      go_wp2
      go_ret
      exact ⟨-1, rfl, Below.refl _ _, by omega, by omega, fun h => by omega⟩
end Go.Proofs.YtlnlodleokobeaaGreat

