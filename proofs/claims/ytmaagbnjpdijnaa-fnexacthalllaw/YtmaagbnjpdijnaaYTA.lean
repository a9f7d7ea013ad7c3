import Derived.Test.YtmaagbnjpdijnaaYA1
import Derived.Deep.OwnRows
import Derived.Deep.RegionWith
import Derived.Test.YtmaagbnjpdijnaaYDA
namespace Go.Proofs.Ytmaagbnjpdijnaa
open Go.RowKit Go.Deep

end Go.Proofs.Ytmaagbnjpdijnaa

namespace Go.Proofs.Ytmaagbnjpdijnaa
open Go.RowKit Go.Deep

/-- a team -/
structure Tm where
  nm : ByteArray
  ov : ByteArray
structure TmCells (w : World) (b o : Nat) (t : Tm) : Prop where
  c0 : w.cell? ⟨b, o, none⟩ = some (.string t.nm)
  c1 : w.cell? ⟨b, o + 1, none⟩ = some (.string t.ov)
structure TmSize (t : Tm) : Prop where
  s0 : t.nm.size ≤ maxLen
  s1 : t.ov.size ≤ maxLen
theorem TmCells.below {w w' : World} {b o : Nat} {t : Tm} (h : TmCells w b o t) (hb : Below w.heap.size w w') (hlt : b < w.heap.size) : TmCells w' b o t := by
  have e : ∀ o, w'.cell? ⟨b, o, none⟩ = w.cell? ⟨b, o, none⟩ := fun o => hb.cell (p := ⟨b, o, none⟩) hlt
  exact ⟨by rw [e]; exact h.c0, by rw [e]; exact h.c1⟩
/-- A []GateTeam THAT HOLDS Ts; its cells lie from block lo on. -/
def TmsAt (lo : Nat) (w : World) (v : Value) (Ts : List Tm) : Prop :=
  (∃ (a : Option Addr) (cap : Nat), v = .slice a 0 cap ∧ Ts = []) ∨
  ∃ (b off cap : Nat), v = .slice (some ⟨b, off, none⟩) Ts.length cap ∧ Ts ≠ [] ∧ Ts.length ≤ maxLen ∧ b < w.heap.size ∧ lo ≤ b ∧ Ts.length ≤ cap ∧
    ∀ i (h : i < Ts.length), TmSize Ts[i] ∧ TmCells w b (off + i * 2) Ts[i]
theorem TmsAt.below {lo : Nat} {w w' : World} {v : Value} {Ts : List Tm} (h : TmsAt lo w v Ts) (hb : Below w.heap.size w w') : TmsAt lo w' v Ts := by
  rcases h with h | ⟨b, off, cap, h1, h2, h3, h4, h5, h6, h7⟩
  · exact Or.inl h
  · refine Or.inr ⟨b, off, cap, h1, h2, h3, Nat.lt_of_lt_of_le h4 hb.size, h5, h6, fun i hi => ?_⟩
    obtain ⟨hs, hc⟩ := h7 i hi
    exact ⟨hs, hc.below hb h4⟩
theorem TmsAt.mono {lo lo' : Nat} {w : World} {v : Value} {Ts : List Tm} (h : TmsAt lo w v Ts) (hl : lo' ≤ lo) : TmsAt lo' w v Ts := by
  rcases h with h | ⟨b, off, cap, h1, h2, h3, h4, h5, h6, h7⟩
  · exact Or.inl h
  · exact Or.inr ⟨b, off, cap, h1, h2, h3, h4, Nat.le_trans hl h5, h6, h7⟩
theorem TmsAt.form {lo : Nat} {w : World} {v : Value} {Ts : List Tm} (h : TmsAt lo w v Ts) : ∃ a cap, v = .slice a Ts.length cap := by
  rcases h with ⟨a, cap, h, rfl⟩ | ⟨b, off, cap, h, _⟩
  · exact ⟨a, cap, h⟩
  · exact ⟨_, cap, h⟩
theorem TmsAt.max {lo : Nat} {w : World} {v : Value} {Ts : List Tm} (h : TmsAt lo w v Ts) : Ts.length ≤ maxLen := by
  rcases h with ⟨a, cap, h, rfl⟩ | ⟨b, off, cap, h, _, h3, _⟩
  · exact Nat.zero_le _
  · exact h3
theorem TmsAt.full {lo : Nat} {w : World} {v : Value} {Ts : List Tm} (h : TmsAt lo w v Ts) (hne : Ts ≠ []) : ∃ (b off cap : Nat), v = .slice (some ⟨b, off, none⟩) Ts.length cap ∧ Ts.length ≤ maxLen ∧ b < w.heap.size ∧ Ts.length ≤ cap ∧
    ∀ i (h : i < Ts.length), TmSize Ts[i] ∧ TmCells w b (off + i * 2) Ts[i] := by
  rcases h with ⟨_, _, _, h⟩ | ⟨b, off, cap, h1, _, h3, h4, _, h6, h7⟩
  · exact absurd h hne
  · exact ⟨b, off, cap, h1, h3, h4, h6, h7⟩
theorem TmsAt.full' {lo : Nat} {w : World} {a : Option Addr} {n cap : Nat} {Ts : List Tm} (h : TmsAt lo w (.slice a n cap) Ts) (hL : 0 < Ts.length) :
    ∃ b off, a = some ⟨b, off, none⟩ ∧ b < w.heap.size ∧ ∀ i (h : i < Ts.length), TmSize Ts[i] ∧ TmCells w b (off + i * 2) Ts[i] := by
  rcases h with ⟨a', cap', h, rfl⟩ | ⟨b', off', cap', h1, h2, h3, h4, h5, h6, h7⟩
  · simp at hL
  · injection h1 with e1 e2 e3
    exact ⟨b', off', e1, h4, h7⟩
theorem TmsAt.setCell {lo : Nat} {w : World} {v : Value} {Ts : List Tm} (h : TmsAt lo w v Ts) {p : Addr} (hp : p.block < lo) (u : Value) : TmsAt lo (w.setCell p u) v Ts := by
  rcases h with h | ⟨b, off, cap, h1, h2, h3, h4, h5, h6, h7⟩
  · exact Or.inl h
  · refine Or.inr ⟨b, off, cap, h1, h2, h3, by simpa [World.setCell] using h4, h5, h6, fun i hi => ?_⟩
    obtain ⟨hs, hc⟩ := h7 i hi
    have e : ∀ o, (w.setCell p u).cell? ⟨b, o, none⟩ = w.cell? ⟨b, o, none⟩ := fun o => cell_setCell_ne _ _ _ _ (by show b ≠ p.block; omega)
    exact ⟨hs, by rw [e]; exact hc.c0, by rw [e]; exact hc.c1⟩

set_option maxHeartbeats 1000000 in
theorem szTeam_any (k f : ByteArray) (left : Int) (w : World) (h0 : 0 ≤ left) (h1 : left ≤ 1048576)
    (s0 : k.size ≤ maxLen) (s1 : f.size ≤ maxLen) :
    Calls Try.prog 58 #[.agg #[.string k, .string f], .int .i64 left] w
      fun e w' => ∃ r : Int, e = .returned (.int .i64 r) ∧ Below w.heap.size w w' ∧ -1 ≤ r ∧ r ≤ left := by
  unfold maxLen at s0 s1
  have HW : ∀ o, Hid (Below w.heap.size w (w.alloc o)) := fun o => (Below.refl _ _).alloc (Nat.le_refl _) _
  go_enter Try.func58, Try.ntmps58
  go_wp2
  all_goals go_ret
  all_goals exact ⟨_, rfl, (HW _).out, by omega, by omega⟩

set_option maxHeartbeats 1000000 in
theorem szTms_any (lo : Nat) (v : Value) (Ts : List Tm) (left : Int) (w : World) (h0 : 0 ≤ left) (h1 : left ≤ 1048576) (hv : TmsAt lo w v Ts) :
    Calls Try.prog 22 #[v, .int .i64 left] w fun e w' => ∃ r : Int, e = .returned (.int .i64 r) ∧ Below w.heap.size w w' ∧ SzOk Ts.length left r := by
  rcases hv with ⟨a, cap, rfl, rfl⟩ | ⟨b, off, cap, rfl, hne, hm, hbw, _, _, hc⟩
  · go_enter Try.func22, Try.ntmps22
    go_wp2
    go_loop [1, 5] (fun l i => ∃ r : Int, l = .int .i64 r ∧ 0 ≤ r ∧ r ≤ left ∧ i = .int .i64 0) (fun _ _ => 0)
    case atStart => exact ⟨_, rfl, by omega, by omega, rfl⟩
    case round =>
      obtain ⟨r, rfl, hr0, hr1, rfl⟩ := hrel
      go_wp2
      go_ret
      exact ⟨r, rfl, Below.refl _ _, by omega, by omega, fun _ => by simp; omega⟩
  · unfold maxLen at hm
    by_cases hle : (Ts.length : Int) ≤ left
    · go_enter Try.func22, Try.ntmps22
      go_wp2
      go_loopw [1, 5] (fun l i wr => ∃ (r : Int) (k : Nat), l = .int .i64 r ∧ 0 ≤ r ∧ r ≤ left ∧ i = .int .i64 k ∧ k ≤ Ts.length ∧ Below w.heap.size w wr) (fun _ i _ => Ts.length - (intOf i).toNat)
      case atStart => exact ⟨_, 0, rfl, by omega, by omega, rfl, by omega, Below.refl _ _⟩
      case round =>
        obtain ⟨r, k, rfl, hr0, hr1, rfl, hk, hb⟩ := hrel
        by_cases hlt : k < Ts.length
        · obtain ⟨hsz, hcell⟩ := hc k hlt
          obtain ⟨c0, c1⟩ := hcell.below hb hbw
          go_wp2_with fail
          refine (szTeam_any _ _ _ _ hr0 (by omega) hsz.s0 hsz.s1).mono ?_
          rintro e w1 ⟨r1, rfl, hb1, q0, q1⟩
          have hB : Hid (Below w.heap.size w w1) := hb.trans (hb1.mono hb.size)
          clear hb1 c0 c1 hb
          go_wp2
          all_goals first
            | (go_roundw
               case rel => exact ⟨_, k + 1, rfl, by omega, by omega, by go_num, by omega, hB.out⟩
               case measure => simp [intOf]; omega)
            | (go_ret
               exact ⟨-1, rfl, hB.out, by omega, by omega, fun h => by omega⟩)
        · go_wp2
          go_ret
          exact ⟨r, rfl, hb, by omega, by omega, fun _ => hle⟩
    · go_enter Try.func22, Try.ntmps22
      go_wp2
      go_ret
      exact ⟨-1, rfl, Below.refl _ _, by omega, by omega, fun h => by omega⟩

set_option maxHeartbeats 1000000 in
theorem toTeam_any (k f : ByteArray) (w : World) :
    Calls Try.prog 60 #[.agg #[.string k, .string f]] w
      fun e w' => e = .returned (.agg #[.string k, .string f]) ∧ Below w.heap.size w w' := by
  go_enter Try.func60, Try.ntmps60
  go_wp2
  refine bodyPost_ret (v := .agg #[.string k, .string f]) (by simp [results, Try.results60, go_sem]) rfl ⟨rfl, ?_⟩
  repeat (refine Below.setCell ?_ (by simp only []; omega) _)
  exact (((Below.refl _ _).alloc (Nat.le_refl _) _).alloc (by simp) _).alloc (by simp; omega) _

set_option maxHeartbeats 1000000 in
theorem eqTeam_same (k f : ByteArray) (w : World) :
    Calls Try.prog 68 #[.agg #[.string k, .string f], .agg #[.string k, .string f]] w
      fun e w' => e = .returned (.bool true) ∧ Below w.heap.size w w' := by
  go_enter Try.func68, Try.ntmps68
  go_wp2
  go_ret
  exact ⟨rfl, ((Below.refl _ _).alloc (Nat.le_refl _) _).alloc (by simp) _⟩

set_option maxHeartbeats 1000000 in
theorem eqTms_same (lo lo' : Nat) (v v' : Value) (Ts : List Tm) (w : World) (hv : TmsAt lo w v Ts) (hv' : TmsAt lo' w v' Ts) :
    Calls Try.prog 34 #[v, v'] w fun e w' => e = .returned (.bool true) ∧ Below w.heap.size w w' := by
  by_cases hL : Ts = []
  · subst hL
    obtain ⟨a, cap, rfl⟩ := hv.form
    obtain ⟨a', cap', rfl⟩ := hv'.form
    clear hv hv'
    go_enter Try.func34, Try.ntmps34
    go_wp2
    go_loop [5] (fun i => i = .int .i64 0) (fun _ => 0)
    case atStart => rfl
    case round =>
      subst hrel
      go_wp2
      go_ret
      exact ⟨rfl, Below.refl _ _⟩
  · obtain ⟨b, off, cap, rfl, hm, hbw, _, hc⟩ := hv.full hL
    obtain ⟨b', off', cap', rfl, _, hbw', _, hc'⟩ := hv'.full hL
    clear hv hv'
    unfold maxLen at hm
    go_enter Try.func34, Try.ntmps34
    go_wp2
    go_loopw [5] (fun i wr => ∃ k : Nat, i = .int .i64 k ∧ k ≤ Ts.length ∧ Below w.heap.size w wr) (fun i _ => Ts.length - (intOf i).toNat)
    case atStart => exact ⟨0, rfl, by omega, Below.refl _ _⟩
    case round =>
      obtain ⟨k, rfl, hk, hb⟩ := hrel
      by_cases hlt : k < Ts.length
      · obtain ⟨_, hcell⟩ := hc k hlt
        obtain ⟨_, hcell'⟩ := hc' k hlt
        obtain ⟨c0, c1⟩ := hcell.below hb hbw
        obtain ⟨d0, d1⟩ := hcell'.below hb hbw'
        clear hcell hcell'
        have HB := hide hb
        clear hb
        go_wp2
        go_region_with (go_at_call 68; refine (eqTeam_same _ _ _).mono ?_; rintro e w1 ⟨rfl, hb1⟩; have hB : Hid (Below w.heap.size w w1) := (HB.out.drew).trans (hb1.mono HB.out.size); clear hb1)
        all_goals go_wp2
        all_goals go_roundw
        all_goals first
          | (case rel => exact ⟨k + 1, by go_num, by omega, hB.out⟩)
          | (case measure => simp [intOf]; omega)
      · go_wp2
        go_ret
        exact ⟨rfl, hb⟩

theorem Try.info108 : (Try.prog.info? 108).map (fun i => (i.zero, i.size, i.bytes)) = some (some (.agg #[.string ⟨#[]⟩, .string ⟨#[]⟩]), 2, 32) := by kernel_rfl
def TmsFill (wr : World) (B : Nat) (Ts : List Tm) (k : Nat) : Prop :=
  ∃ f, wr.rowIs B 108 (Ts.length * 2) f ∧ ∀ i (h : i < Ts.length), i < k → TmSize Ts[i] ∧ f (i * 2) = .string Ts[i].nm ∧ f (i * 2 + 1) = .string Ts[i].ov
theorem TmsFill.below {wr w1 : World} {B : Nat} {Ts : List Tm} {k : Nat} (h : TmsFill wr B Ts k) (hb : Below wr.heap.size wr w1) : TmsFill w1 B Ts k := by
  obtain ⟨f, hr, hall⟩ := h
  exact ⟨f, hr.of_block (hb.block B hr.lt), hall⟩
theorem TmsFill.free {wr : World} {B : Nat} {Ts : List Tm} {k : Nat} (h : TmsFill wr B Ts k) (i : Nat) : wr.frozen? ⟨B, i, none⟩ = false := by
  obtain ⟨f, hr, _⟩ := h
  exact hr.frozen i
theorem TmsFill.there {wr : World} {B : Nat} {Ts : List Tm} {k : Nat} (h : TmsFill wr B Ts k) (i : Nat) (hi : i < Ts.length * 2) : ∃ v, wr.cell? ⟨B, i, none⟩ = some v := by
  obtain ⟨f, hr, _⟩ := h
  exact ⟨_, hr.cell hi⟩
theorem TmsFill.lt {wr : World} {B : Nat} {Ts : List Tm} {k : Nat} (h : TmsFill wr B Ts k) : B < wr.heap.size := by
  obtain ⟨f, hr, _⟩ := h
  exact hr.lt
theorem TmsFill.step {w1 : World} {B : Nat} {Ts : List Tm} {k : Nat} (h : TmsFill w1 B Ts k) (hk : k < Ts.length) (hz : TmSize Ts[k]) :
    TmsFill ((w1.setCell ⟨B, k * 2, none⟩ (.string Ts[k].nm)).setCell ⟨B, k * 2 + 1, none⟩ (.string Ts[k].ov)) B Ts (k + 1) := by
  obtain ⟨f, hr, hall⟩ := h
  refine ⟨_, ((hr.set _ _).set _ _), fun i hi hik => ?_⟩
  by_cases e : i = k
  · subst e
    exact ⟨hz, by simp, by simp⟩
  · obtain ⟨hz', h0, h1⟩ := hall i hi (by omega)
    refine ⟨hz', ?_, ?_⟩
    · rw [if_neg (by omega), if_neg (by omega)]; exact h0
    · rw [if_neg (by omega), if_neg (by omega)]; exact h1
theorem TmsFill.done {wr : World} {B : Nat} {Ts : List Tm} {k : Nat} (h : TmsFill wr B Ts k) (hk : Ts.length ≤ k) (hne : Ts ≠ []) (hm : Ts.length ≤ maxLen) : TmsAt B wr (.slice (some ⟨B, 0, none⟩) Ts.length Ts.length) Ts := by
  obtain ⟨f, hr, hall⟩ := h
  refine Or.inr ⟨B, 0, Ts.length, rfl, hne, hm, hr.lt, Nat.le_refl _, Nat.le_refl _, fun i hi => ?_⟩
  obtain ⟨hz, h0, h1⟩ := hall i hi (by omega)
  rw [Nat.zero_add]
  exact ⟨hz, by rw [hr.cell (by omega), h0], by rw [hr.cell (by omega), h1]⟩
theorem TmsFill.new (w : World) (Ts : List Tm) (z : Array Value) : TmsFill (w.alloc (.cells (madeCells z (Ts.length * 2)) 108)) w.heap.size Ts 0 := by
  refine ⟨fun i => (madeCells z (Ts.length * 2)).getD i default, ?_, fun i _ h => by omega⟩
  have := World.rowIs_alloc w (madeCells z (Ts.length * 2)) 108 (fun i => (madeCells z (Ts.length * 2)).getD i default) (fun i hi => by simp [Array.getD, hi])
  rwa [size_madeCells] at this

set_option maxHeartbeats 1000000 in
theorem toTms_any (lo : Nat) (v : Value) (Ts : List Tm) (w : World) (hv : TmsAt lo w v Ts) (hn : Ts.length ≤ 1048576) :
    Calls Try.prog 25 #[v] w fun e w' => ∃ v', e = .returned v' ∧ Below w.heap.size w w' ∧ TmsAt w.heap.size w' v' Ts := by
  obtain ⟨i0, hi, hz0, hz1, hz2⟩ := info_parts Try.info108
  by_cases hL : Ts = []
  · subst hL
    obtain ⟨a, cap, rfl⟩ := hv.form
    clear hv
    have hmk : ∀ u : World, (Instr.makeSlice 29 (.int .i64 0) (.int .i64 0)).run Try.prog u = .ok (.slice (some ⟨u.heap.size, 0, none⟩) 0 0) (u.alloc (.cells (madeCells (Value.cells (.agg #[.string ⟨#[]⟩, .string ⟨#[]⟩])) 0) 108)) := fun u => by
      have h := run_make (P := Try.prog) u 29 108 i0 _ Try.underlying29 hi hz0 .i64 .i64 0 0 (by omega) (by omega) (by omega) (by omega)
      simpa [hz1] using h
    go_enter Try.func25, Try.ntmps25
    go_wp2
    go_loop [4] (fun i => i = .int .i64 0) (fun _ => 0)
    case atStart => rfl
    case round =>
      subst hrel
      go_wp2
      go_ret
      exact ⟨_, rfl, (Below.refl _ _).alloc (Nat.le_refl _) _, Or.inl ⟨_, _, rfl, rfl⟩⟩
  · obtain ⟨b, off, cap, rfl, hm, hbw, _, hc⟩ := hv.full hL
    clear hv
    have HM : Hid (Ts.length ≤ maxLen) := hm
    unfold maxLen at hm
    have hmk : ∀ u : World, (Instr.makeSlice 29 (.int .i64 (Ts.length : Int)) (.int .i64 (Ts.length : Int))).run Try.prog u = .ok (.slice (some ⟨u.heap.size, 0, none⟩) Ts.length Ts.length) (u.alloc (.cells (madeCells (Value.cells (.agg #[.string ⟨#[]⟩, .string ⟨#[]⟩])) (Ts.length * 2)) 108)) := fun u => by
      have h := run_make (P := Try.prog) u 29 108 i0 _ Try.underlying29 hi hz0 .i64 .i64 Ts.length Ts.length (by omega) (by omega) (by rw [hz2]; omega) (by omega)
      rw [hz1] at h
      simpa using h
    clear hi hz0 hz1 hz2
    go_enter Try.func25, Try.ntmps25
    go_wp2
    clear hmk
    go_loopw [4] (fun i wr => ∃ k : Nat, i = .int .i64 k ∧ k ≤ Ts.length ∧ Below w.heap.size w wr ∧ TmsFill wr w.heap.size Ts k) (fun i _ => Ts.length - (intOf i).toNat)
    case atStart => exact ⟨0, rfl, by omega, (Below.refl _ _).alloc (Nat.le_refl _) _, TmsFill.new w Ts _⟩
    case round =>
      obtain ⟨k, rfl, hk, hb, hf⟩ := hrel
      by_cases hlt : k < Ts.length
      · obtain ⟨hsz, hcell⟩ := hc k hlt
        obtain ⟨c0, c1⟩ := hcell.below hb hbw
        clear hcell
        go_wp2_with fail
        refine (toTeam_any _ _ _).mono ?_
        rintro e w1 ⟨rfl, hb1⟩
        have hf1 := hf.below hb1
        have HST := hide (hf1.step hlt hsz)
        have hB : Hid (Below w.heap.size w w1) := hb.trans (hb1.mono hb.size)
        have hfr := hf1.free
        obtain ⟨o0, ho0⟩ := hf1.there (k * 2) (by omega)
        obtain ⟨o1, ho1⟩ := hf1.there (k * 2 + 1) (by omega)
        clear hf hf1 hb1 hb c0 c1
        go_wp2
        go_roundw
        case rel =>
          exact ⟨k + 1, by go_num, by omega, (hB.out.setCell (Nat.le_refl _) _).setCell (Nat.le_refl _) _, HST.out⟩
        case measure => simp [intOf]; omega
      · go_wp2
        go_ret
        exact ⟨_, rfl, hb, hf.done (by omega) hL HM.out⟩
end Go.Proofs.Ytmaagbnjpdijnaa

namespace Go.Proofs.Ytmaagbnjpdijnaa
open Go.RowKit Go.Deep

/-- a rule -/
structure Ru where
  vb : List Int
  kd : ByteArray
  tm : ByteArray
  pf : ByteArray
/-- A []int THAT HOLDS L; its cells lie from block lo on. -/
def IntsIn (lo : Nat) (w : World) (v : Value) (L : List Int) : Prop :=
  (∃ (a : Option Addr) (cap : Nat), v = .slice a 0 cap ∧ L = []) ∨
  ∃ (b off cap : Nat), v = .slice (some ⟨b, off, none⟩) L.length cap ∧ L ≠ [] ∧ L.length ≤ maxLen ∧ b < w.heap.size ∧ lo ≤ b ∧
    ∀ i (h : i < L.length), w.cell? ⟨b, off + i, none⟩ = some (.int .i64 L[i])
theorem IntsIn.below {lo : Nat} {w w' : World} {v : Value} {L : List Int} (h : IntsIn lo w v L) (hb : Below w.heap.size w w') : IntsIn lo w' v L := by
  rcases h with h | ⟨b, off, cap, h1, h2, h3, h4, h5, h6⟩
  · exact Or.inl h
  · exact Or.inr ⟨b, off, cap, h1, h2, h3, Nat.lt_of_lt_of_le h4 hb.size, h5, fun i hi => by rw [hb.cell (p := ⟨b, _, none⟩) h4]; exact h6 i hi⟩
theorem IntsIn.mono {lo lo' : Nat} {w : World} {v : Value} {L : List Int} (h : IntsIn lo w v L) (hl : lo' ≤ lo) : IntsIn lo' w v L := by
  rcases h with h | ⟨b, off, cap, h1, h2, h3, h4, h5, h6⟩
  · exact Or.inl h
  · exact Or.inr ⟨b, off, cap, h1, h2, h3, h4, Nat.le_trans hl h5, h6⟩
theorem IntsIn.form {lo : Nat} {w : World} {v : Value} {L : List Int} (h : IntsIn lo w v L) : ∃ a cap, v = .slice a L.length cap := by
  rcases h with ⟨a, cap, h, rfl⟩ | ⟨b, off, cap, h, _⟩
  · exact ⟨a, cap, h⟩
  · exact ⟨_, cap, h⟩
theorem IntsIn.max {lo : Nat} {w : World} {v : Value} {L : List Int} (h : IntsIn lo w v L) : L.length ≤ maxLen := by
  rcases h with ⟨a, cap, h, rfl⟩ | ⟨b, off, cap, h, _, h3, _⟩
  · exact Nat.zero_le _
  · exact h3
theorem IntsIn.full {lo : Nat} {w : World} {v : Value} {L : List Int} (h : IntsIn lo w v L) (hne : L ≠ []) : ∃ (b off cap : Nat), v = .slice (some ⟨b, off, none⟩) L.length cap ∧ L.length ≤ maxLen ∧ b < w.heap.size ∧
    ∀ i (h : i < L.length), w.cell? ⟨b, off + i, none⟩ = some (.int .i64 L[i]) := by
  rcases h with ⟨_, _, _, h⟩ | ⟨b, off, cap, h1, _, h3, h4, _, h6⟩
  · exact absurd h hne
  · exact ⟨b, off, cap, h1, h3, h4, h6⟩
theorem IntsIn.full' {lo : Nat} {w : World} {a : Option Addr} {n cap : Nat} {L : List Int} (h : IntsIn lo w (.slice a n cap) L) (hL : 0 < L.length) :
    ∃ b off, a = some ⟨b, off, none⟩ ∧ b < w.heap.size ∧ ∀ i (h : i < L.length), w.cell? ⟨b, off + i, none⟩ = some (.int .i64 L[i]) := by
  rcases h with ⟨a', cap', h, rfl⟩ | ⟨b', off', cap', h1, h2, h3, h4, h5, h6⟩
  · simp at hL
  · injection h1 with e1 e2 e3
    exact ⟨b', off', e1, h4, h6⟩
theorem IntsIn.setCell {lo : Nat} {w : World} {v : Value} {L : List Int} (h : IntsIn lo w v L) {p : Addr} (hp : p.block < lo) (u : Value) : IntsIn lo (w.setCell p u) v L := by
  rcases h with h | ⟨b, off, cap, h1, h2, h3, h4, h5, h6⟩
  · exact Or.inl h
  · refine Or.inr ⟨b, off, cap, h1, h2, h3, by simpa [World.setCell] using h4, h5, fun i hi => ?_⟩
    rw [cell_setCell_ne _ _ _ _ (by show b ≠ p.block; omega)]
    exact h6 i hi

set_option maxHeartbeats 400000 in
theorem szInts_any (lo : Nat) (v : Value) (L : List Int) (left : Int) (w : World) (h0 : 0 ≤ left) (h1 : left ≤ 1048576) (hv : IntsIn lo w v L) :
    Calls Try.prog 121 #[v, .int .i64 left] w fun e w' => ∃ r : Int, e = .returned (.int .i64 r) ∧ w' = w ∧ SzOk L.length left r := by
  have hm := hv.max
  unfold maxLen at hm
  obtain ⟨a, cap, rfl⟩ := hv.form
  by_cases hle : (L.length : Int) ≤ left
  · go_enter Try.func121, Try.ntmps121
    go_wp2
    go_ret
    exact ⟨_, rfl, rfl, by omega, by omega, fun _ => hle⟩
  · go_enter Try.func121, Try.ntmps121
    go_wp2
    go_ret
    exact ⟨-1, rfl, rfl, by omega, by omega, fun h => by omega⟩

set_option maxHeartbeats 1000000 in
theorem eqInts_same (lo lo' : Nat) (v v' : Value) (L : List Int) (w : World) (hv : IntsIn lo w v L) (hv' : IntsIn lo' w v' L) :
    Calls Try.prog 124 #[v, v'] w fun e w' => e = .returned (.bool true) ∧ Below w.heap.size w w' := by
  by_cases hL : L = []
  · subst hL
    obtain ⟨a, cap, rfl⟩ := hv.form
    obtain ⟨a', cap', rfl⟩ := hv'.form
    clear hv hv'
    go_enter Try.func124, Try.ntmps124
    go_wp2
    go_loop [5] (fun i => i = .int .i64 0) (fun _ => 0)
    case atStart => rfl
    case round =>
      subst hrel
      go_wp2
      go_ret
      exact ⟨rfl, Below.refl _ _⟩
  · obtain ⟨b, off, cap, rfl, hm, hbw, hc⟩ := hv.full hL
    obtain ⟨b', off', cap', rfl, _, hbw', hc'⟩ := hv'.full hL
    clear hv hv'
    unfold maxLen at hm
    go_enter Try.func124, Try.ntmps124
    go_wp2
    go_loopw [5] (fun i wr => ∃ k : Nat, i = .int .i64 k ∧ k ≤ L.length ∧ Below w.heap.size w wr) (fun i _ => L.length - (intOf i).toNat)
    case atStart => exact ⟨0, rfl, by omega, Below.refl _ _⟩
    case round =>
      obtain ⟨k, rfl, hk, hb⟩ := hrel
      by_cases hlt : k < L.length
      · have c0 : wr.cell? ⟨b, off + k, none⟩ = some (.int .i64 L[k]) := by rw [hb.cell (p := ⟨b, _, none⟩) hbw]; exact hc k hlt
        have d0 : wr.cell? ⟨b', off' + k, none⟩ = some (.int .i64 L[k]) := by rw [hb.cell (p := ⟨b', _, none⟩) hbw']; exact hc' k hlt
        have HB := hide hb
        clear hb
        go_wp2
        try go_quiet (fail)
        try go_wp2
        go_roundw
        case rel => exact ⟨k + 1, by go_num, by omega, by first | exact HB.out | exact below_drewN HB.out _⟩
        case measure => simp [intOf]; omega
      · go_wp2
        go_ret
        exact ⟨rfl, hb⟩

theorem Try.info3 : (Try.prog.info? 3).map (fun i => (i.zero, i.size, i.bytes)) = some (some (.int .i64 0), 1, 8) := by kernel_rfl
def fillI (L : List Int) (k i : Nat) : Value := if i < k then .int .i64 (L.getD i 0) else .int .i64 0
def FilledI (wr : World) (B : Nat) (L : List Int) (k : Nat) : Prop := wr.rowIs B 3 L.length (fillI L k)
theorem FilledI.step {wr : World} {B : Nat} {L : List Int} {k : Nat} (h : FilledI wr B L k) (hk : k < L.length) : FilledI (wr.setCell ⟨B, k, none⟩ (.int .i64 L[k])) B L (k + 1) := by
  unfold FilledI at *
  refine (h.set k (.int .i64 L[k])).congr fun i hi => ?_
  unfold fillI
  by_cases e : i = k
  · subst e; simp [hk]
  · by_cases e2 : i < k
    · simp [e, e2, Nat.lt_succ_of_lt e2]
    · have : ¬ i < k + 1 := by omega
      simp [e, e2, this]
theorem FilledI.done {wr : World} {B : Nat} {L : List Int} {k : Nat} (h : FilledI wr B L k) (hk : L.length ≤ k) (hne : L ≠ []) (hm : L.length ≤ maxLen) : IntsIn B wr (.slice (some ⟨B, 0, none⟩) L.length L.length) L := by
  refine Or.inr ⟨B, 0, L.length, rfl, hne, hm, World.rowIs.lt h, Nat.le_refl _, fun i hi => ?_⟩
  rw [Nat.zero_add, World.rowIs.cell h hi]
  unfold fillI
  rw [if_pos (by omega), List.getD_eq_getElem?_getD, List.getElem?_eq_getElem hi]; rfl

set_option maxHeartbeats 400000 in
theorem toInts_any (lo : Nat) (v : Value) (L : List Int) (w : World) (hv : IntsIn lo w v L) (hn : L.length ≤ 1048576) :
    Calls Try.prog 122 #[v] w fun e w' => ∃ v', e = .returned v' ∧ Below w.heap.size w w' ∧ IntsIn w.heap.size w' v' L := by
  by_cases hL : L = []
  · subst hL
    obtain ⟨a, cap, rfl⟩ := hv.form
    clear hv
    have hmk : ∀ u : World, (Instr.makeSlice 87 (.int .i64 0) (.int .i64 0)).run Try.prog u = .ok (.slice (some ⟨u.heap.size, 0, none⟩) 0 0) (u.alloc (.cells (madeCells #[.int .i64 0] 0) 3)) :=
      fun u => run_make_row' 87 3 (.int .i64 0) 8 Try.underlying87 Try.info3 rfl .i64 .i64 0 (by omega) (by omega) u
    go_enter Try.func122, Try.ntmps122
    go_wp2
    go_loop [4] (fun i => i = .int .i64 0) (fun _ => 0)
    case atStart => rfl
    case round =>
      subst hrel
      go_wp2
      go_ret
      exact ⟨_, rfl, (Below.refl _ _).alloc (Nat.le_refl _) _, Or.inl ⟨_, _, rfl, rfl⟩⟩
  · obtain ⟨b, off, cap, rfl, hm, hbw, hc⟩ := hv.full hL
    clear hv
    have HM : Hid (L.length ≤ maxLen) := hm
    unfold maxLen at hm
    have hmk : ∀ u : World, (Instr.makeSlice 87 (.int .i64 (L.length : Int)) (.int .i64 (L.length : Int))).run Try.prog u = .ok (.slice (some ⟨u.heap.size, 0, none⟩) L.length L.length) (u.alloc (.cells (madeCells #[.int .i64 0] L.length) 3)) :=
      fun u => run_make_row' 87 3 (.int .i64 0) 8 Try.underlying87 Try.info3 rfl .i64 .i64 L.length (by omega) (by omega) u
    go_enter Try.func122, Try.ntmps122
    go_wp2
    clear hmk
    go_loopw [4] (fun i wr => ∃ k : Nat, i = .int .i64 k ∧ k ≤ L.length ∧ Below w.heap.size w wr ∧ FilledI wr w.heap.size L k) (fun i _ => L.length - (intOf i).toNat)
    case atStart => exact ⟨0, rfl, by omega, (Below.refl _ _).alloc (Nat.le_refl _) _, World.rowIs_made w (.int .i64 0) L.length 3⟩
    case round =>
      obtain ⟨k, rfl, hk, hb, hf⟩ := hrel
      by_cases hlt : k < L.length
      · have hck : wr.cell? ⟨b, off + k, none⟩ = some (.int .i64 L[k]) := by rw [hb.cell (p := ⟨b, off + k, none⟩) hbw]; exact hc k hlt
        have hold : wr.cell? ⟨w.heap.size, k, none⟩ = some _ := World.rowIs.cell hf hlt
        have hfz : wr.frozen? ⟨w.heap.size, k, none⟩ = false := World.rowIs.frozen hf k
        go_wp2
        go_roundw
        case rel => exact ⟨k + 1, by go_num, by omega, hb.setCell (Nat.le_refl _) _, hf.step hlt⟩
        case measure => simp [intOf]; omega
      · go_wp2
        go_ret
        exact ⟨_, rfl, hb, hf.done (by omega) hL HM.out⟩

structure RuSize (r : Ru) : Prop where
  s1 : r.kd.size ≤ maxLen
  s2 : r.tm.size ≤ maxLen
  s3 : r.pf.size ≤ maxLen
set_option maxHeartbeats 1000000 in
theorem szRule_any (lo : Nat) (r : Ru) (vv : Value) (left : Int) (w : World) (h0 : 0 ≤ left) (h1 : left ≤ 1048576) (hv : IntsIn lo w vv r.vb) (hz : RuSize r) :
    Calls Try.prog 105 #[.agg #[vv, .string r.kd, .string r.tm, .string r.pf], .int .i64 left] w
      fun e w' => ∃ q : Int, e = .returned (.int .i64 q) ∧ Below w.heap.size w w' ∧ SzOk r.vb.length left q := by
  obtain ⟨s1, s2, s3⟩ := hz
  unfold maxLen at s1 s2 s3
  have HV := hide hv
  obtain ⟨a, cap, rfl⟩ := hv.form
  clear hv
  have HW : ∀ o, Hid (Below w.heap.size w (w.alloc o)) := fun o => one_al _ _
  go_enter Try.func105, Try.ntmps105
  go_wp2_with fail
  refine (szInts_any lo _ r.vb _ _ (by omega) (by omega) (HV.out.below (HW _).out)).mono ?_
  rintro e w1 ⟨q, rfl, rfl, hr0, hr1, hr2⟩
  have HR := hide hr2
  clear hr2
  go_wp2
  all_goals go_ret
  all_goals refine ⟨_, rfl, (HW _).out, by omega, by omega, fun _ => ?_⟩
  all_goals have := HR.out (by omega)
  all_goals omega

set_option maxHeartbeats 1000000 in
theorem toRule_any (lo : Nat) (r : Ru) (vv : Value) (w : World) (hv : IntsIn lo w vv r.vb) (hn : r.vb.length ≤ 1048576) :
    Calls Try.prog 106 #[.agg #[vv, .string r.kd, .string r.tm, .string r.pf]] w
      fun e w' => ∃ v', e = .returned (.agg #[v', .string r.kd, .string r.tm, .string r.pf]) ∧ Below w.heap.size w w' ∧ IntsIn w.heap.size w' v' r.vb := by
  have HV := hide hv
  obtain ⟨a, cap, rfl⟩ := hv.form
  clear hv
  go_enter Try.func106, Try.ntmps106
  go_wp2_with fail
  refine (toInts_any lo _ r.vb _ (HV.out.below ?_) hn).mono ?_
  · exact (((Below.refl _ _).alloc (Nat.le_refl _) _).alloc (by simp) _).alloc (by simp; omega) _
  rintro e w1 ⟨v', rfl, hb, hs⟩
  obtain ⟨a', cap', rfl⟩ := hs.form
  have HS : Hid (IntsIn (w.heap.size + 3) w1 (.slice a' r.vb.length cap') r.vb) := hs.mono (by simp)
  clear hs
  have hz : w.heap.size + 2 < w1.heap.size := by have := hb.size; simp at this; omega
  have hc : ∀ b o, b < w.heap.size + 3 → w1.cell? ⟨b, o, none⟩ = _ := fun b o h => hb.cell (p := ⟨b, o, none⟩) (by simpa using h)
  have hf : ∀ b o, b < w.heap.size + 3 → w1.frozen? ⟨b, o, none⟩ = _ := fun b o h => hb.frozen (p := ⟨b, o, none⟩) (by simpa using h)
  have HB : Hid (Below w.heap.size w w1) := ((((Below.refl _ _).alloc (Nat.le_refl _) _).alloc (by simp) _).alloc (by simp; omega) _).trans (hb.mono (by simp; omega))
  clear hb
  go_wp2
  refine bodyPost_ret (v := .agg #[.slice a' r.vb.length cap', .string r.kd, .string r.tm, .string r.pf]) (by simp [results, Try.results106, go_sem, hc]) rfl ⟨_, rfl, ?_, ?_⟩
  · repeat (refine Below.setCell ?_ (by simp only []; omega) _)
    exact HB.out
  · refine IntsIn.mono (lo := w.heap.size + 3) ?_ (by omega)
    repeat (refine IntsIn.setCell ?_ (by simp only []; omega) _)
    exact HS.out

set_option maxHeartbeats 1000000 in
theorem eqRule_same (lo lo' : Nat) (r : Ru) (vv vv' : Value) (w : World) (hv : IntsIn lo w vv r.vb) (hv' : IntsIn lo' w vv' r.vb) :
    Calls Try.prog 108 #[.agg #[vv, .string r.kd, .string r.tm, .string r.pf], .agg #[vv', .string r.kd, .string r.tm, .string r.pf]] w
      fun e w' => e = .returned (.bool true) ∧ Below w.heap.size w w' := by
  have HV := hide hv
  have HV' := hide hv'
  obtain ⟨a, cap, rfl⟩ := hv.form
  obtain ⟨a', cap', rfl⟩ := hv'.form
  clear hv hv'
  go_enter Try.func108, Try.ntmps108
  go_wp2_with fail
  generalize hWa : (World.alloc (w.alloc _) _) = Wa
  have HBa : Hid (Below w.heap.size w Wa) := by rw [← hWa]; exact (one_al w _).alloc (by simp) _
  have FA : Hid (Box Wa w.heap.size #[.slice a r.vb.length cap, .string r.kd, .string r.tm, .string r.pf]) := by rw [← hWa]; exact (Box.new _ _ _ _ rfl).on (one_al _ _)
  have FB : Hid (Box Wa (w.heap.size + 1) #[.slice a' r.vb.length cap', .string r.kd, .string r.tm, .string r.pf]) := by rw [← hWa]; exact Box.new _ _ _ _ (by simp)
  clear hWa
  refine (eqInts_same lo lo' _ _ r.vb _ (HV.out.below HBa.out) (HV'.out.below HBa.out)).mono ?_
  rintro e w1 ⟨rfl, hb1⟩
  have HB1 : Hid (Below w.heap.size w w1) := HBa.out.trans (hb1.mono HBa.out.size)
  have g := (FA.out.on hb1).cell
  have g' := (FB.out.on hb1).cell
  have a1 : w1.cell? ⟨w.heap.size, 1, none⟩ = some (.string r.kd) := g 1
  have a2 : w1.cell? ⟨w.heap.size, 2, none⟩ = some (.string r.tm) := g 2
  have a3 : w1.cell? ⟨w.heap.size, 3, none⟩ = some (.string r.pf) := g 3
  have b1 : w1.cell? ⟨w.heap.size + 1, 1, none⟩ = some (.string r.kd) := g' 1
  have b2 : w1.cell? ⟨w.heap.size + 1, 2, none⟩ = some (.string r.tm) := g' 2
  have b3 : w1.cell? ⟨w.heap.size + 1, 3, none⟩ = some (.string r.pf) := g' 3
  clear g g' hb1
  go_wp2
  go_ret
  exact ⟨rfl, HB1.out⟩
end Go.Proofs.Ytmaagbnjpdijnaa

