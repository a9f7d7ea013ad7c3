import Derived.Test.YtfbfgljkiikabaaV01
import Derived.Test.YtfbfgljkiikabaaV02
import Derived.Deep.MidRow
namespace Go.Proofs.Ytfbfgljkiikabaa
open Go.RowKit Go.Deep

def RtSize (x : ByteArray) : Prop := x.size ≤ maxLen
def RtsAt (lo : Nat) (w : World) (v : Value) (Xl : List ByteArray) : Prop :=
  (∃ (a : Option Addr) (cap : Nat), v = .slice a 0 cap ∧ Xl = []) ∨
  ∃ (b off cap : Nat), v = .slice (some ⟨b, off, none⟩) Xl.length cap ∧ Xl ≠ [] ∧ Xl.length ≤ maxLen ∧ b < w.heap.size ∧ lo ≤ b ∧ Xl.length ≤ cap ∧
    ∀ i (h : i < Xl.length), RtSize Xl[i] ∧ w.cell? ⟨b, off + i, none⟩ = some (.string Xl[i])
theorem RtsAt.below {lo : Nat} {w w' : World} {v : Value} {Xl : List ByteArray} (h : RtsAt lo w v Xl) (hb : Below w.heap.size w w') : RtsAt lo w' v Xl := by
  rcases h with h | ⟨b, off, cap, h1, h2, h3, h4, h5, h6, h7⟩
  · exact Or.inl h
  · refine Or.inr ⟨b, off, cap, h1, h2, h3, Nat.lt_of_lt_of_le h4 hb.size, h5, h6, fun i hi => ⟨(h7 i hi).1, ?_⟩⟩
    rw [hb.cell (p := ⟨b, _, none⟩) h4]
    exact (h7 i hi).2
theorem RtsAt.mono {lo lo' : Nat} {w : World} {v : Value} {Xl : List ByteArray} (h : RtsAt lo w v Xl) (hl : lo' ≤ lo) : RtsAt lo' w v Xl := by
  rcases h with h | ⟨b, off, cap, h1, h2, h3, h4, h5, h6, h7⟩
  · exact Or.inl h
  · exact Or.inr ⟨b, off, cap, h1, h2, h3, h4, Nat.le_trans hl h5, h6, h7⟩
theorem RtsAt.set {lo : Nat} {w : World} {v : Value} {Xl : List ByteArray} (h : RtsAt lo w v Xl) {p : Addr} (hp : p.block < lo) (u : Value) : RtsAt lo (w.setCell p u) v Xl := by
  rcases h with h | ⟨b, off, cap, h1, h2, h3, h4, h5, h6, h7⟩
  · exact Or.inl h
  · refine Or.inr ⟨b, off, cap, h1, h2, h3, by simpa [World.setCell] using h4, h5, h6, fun i hi => ⟨(h7 i hi).1, ?_⟩⟩
    rw [cell_setCell_ne _ _ _ _ (by show b ≠ p.block; omega)]
    exact (h7 i hi).2
theorem RtsAt.form {lo : Nat} {w : World} {v : Value} {Xl : List ByteArray} (h : RtsAt lo w v Xl) : ∃ a cap, v = .slice a Xl.length cap := by
  rcases h with ⟨a, cap, h, rfl⟩ | ⟨b, off, cap, h, _⟩
  · exact ⟨a, cap, h⟩
  · exact ⟨_, cap, h⟩
theorem RtsAt.max {lo : Nat} {w : World} {v : Value} {Xl : List ByteArray} (h : RtsAt lo w v Xl) : Xl.length ≤ maxLen := by
  rcases h with ⟨a, cap, h, rfl⟩ | ⟨b, off, cap, h, _, h3, _⟩
  · exact Nat.zero_le _
  · exact h3
theorem RtsAt.full {lo : Nat} {w : World} {v : Value} {Xl : List ByteArray} (h : RtsAt lo w v Xl) (hne : Xl ≠ []) : ∃ (b off cap : Nat), v = .slice (some ⟨b, off, none⟩) Xl.length cap ∧ Xl.length ≤ maxLen ∧ b < w.heap.size ∧ Xl.length ≤ cap ∧
    ∀ i (h : i < Xl.length), RtSize Xl[i] ∧ w.cell? ⟨b, off + i, none⟩ = some (.string Xl[i]) := by
  rcases h with ⟨_, _, _, h⟩ | ⟨b, off, cap, h1, _, h3, h4, _, h6, h7⟩
  · exact absurd h hne
  · exact ⟨b, off, cap, h1, h3, h4, h6, h7⟩
theorem RtsAt.full' {lo : Nat} {w : World} {a : Option Addr} {n cap : Nat} {Xl : List ByteArray} (h : RtsAt lo w (.slice a n cap) Xl) (hL : 0 < Xl.length) :
    ∃ b off, a = some ⟨b, off, none⟩ ∧ b < w.heap.size ∧ lo ≤ b ∧ ∀ i (h : i < Xl.length), RtSize Xl[i] ∧ w.cell? ⟨b, off + i, none⟩ = some (.string Xl[i]) := by
  rcases h with ⟨a', cap', h, rfl⟩ | ⟨b', off', cap', h1, h2, h3, h4, h5, h6, h7⟩
  · simp at hL
  · injection h1 with e1 e2 e3
    exact ⟨b', off', e1, h4, h5, h7⟩
def RtsSmall (Xl : List ByteArray) : Prop := Xl.length ≤ 1048576
def SzRts (Xl : List ByteArray) (left r : Int) : Prop := -1 ≤ r ∧ r ≤ left ∧ (0 ≤ r → RtsSmall Xl)

set_option maxHeartbeats 1000000 in
theorem szRts_any (lo : Nat) (v : Value) (Xl : List ByteArray) (left : Int) (w : World) (h0 : 0 ≤ left) (h1 : left ≤ 1048576) (hv : RtsAt lo w v Xl) :
    Calls Try.prog 22 #[v, .int .i64 left] w fun e w' => ∃ r : Int, e = .returned (.int .i64 r) ∧ Below w.heap.size w w' ∧ SzRts Xl left r := by
  rcases hv with ⟨a, cap, rfl, rfl⟩ | ⟨b, off, cap, rfl, hne, hm, hbw, _, _, hc⟩
  · go_enter Try.func22, Try.ntmps22
    go_wp2
    go_loop [1, 5] (fun l i => ∃ r : Int, l = .int .i64 r ∧ 0 ≤ r ∧ r ≤ left ∧ i = .int .i64 0) (fun _ _ => 0)
    case atStart => exact ⟨_, rfl, by omega, by omega, rfl⟩
    case round =>
      obtain ⟨r, rfl, hr0, hr1, rfl⟩ := hrel
      go_wp2
      go_ret
      exact ⟨r, rfl, Below.refl _ _, by omega, by omega, fun _ => by unfold RtsSmall; simp⟩
  · unfold maxLen at hm
    by_cases hle : (Xl.length : Int) ≤ left
    · go_enter Try.func22, Try.ntmps22
      go_wp2
      go_loopw [1, 5] (fun l i wr => ∃ (r : Int) (k : Nat), l = .int .i64 r ∧ 0 ≤ r ∧ r ≤ left ∧ i = .int .i64 k ∧ k ≤ Xl.length ∧ Below w.heap.size w wr) (fun _ i _ => Xl.length - (intOf i).toNat)
      case atStart => exact ⟨_, 0, rfl, by omega, by omega, rfl, by omega, Below.refl _ _⟩
      case round =>
        obtain ⟨r, k, rfl, hr0, hr1, rfl, hk, hb⟩ := hrel
        by_cases hlt : k < Xl.length
        · obtain ⟨hs, c0⟩ := hc k hlt
          unfold RtSize maxLen at hs
          rw [← hb.cell (p := ⟨b, off + k, none⟩) hbw] at c0
          have HB := hide hb
          clear hb
          by_cases hneg : r - (Xl[k].size : Int) < 0
          · go_wp2
            go_ret
            exact ⟨-1, rfl, HB.out, by omega, by omega, fun h => by omega⟩
          · go_wp2
            go_roundw
            case rel => exact ⟨_, k + 1, rfl, by omega, by omega, by go_num, by omega, HB.out⟩
            case measure => simp [intOf]; omega
        · go_wp2
          go_ret
          exact ⟨r, rfl, hb, by omega, by omega, fun _ => by unfold RtsSmall; omega⟩
    · go_enter Try.func22, Try.ntmps22
      go_wp2
      go_ret
      exact ⟨-1, rfl, Below.refl _ _, by omega, by omega, fun h => by omega⟩

set_option maxHeartbeats 1000000 in
theorem eqRts_same (lo lo' : Nat) (v v' : Value) (Xl : List ByteArray) (w : World) (hv : RtsAt lo w v Xl) (hv' : RtsAt lo' w v' Xl) :
    Calls Try.prog 41 #[v, v'] w fun e w' => e = .returned (.bool true) ∧ Below w.heap.size w w' := by
  by_cases hL : Xl = []
  · subst hL
    obtain ⟨a, cap, rfl⟩ := hv.form
    obtain ⟨a', cap', rfl⟩ := hv'.form
    clear hv hv'
    go_enter Try.func41, Try.ntmps41
    go_wp2
    go_loop [5] (fun i => i = .int .i64 0) (fun _ => 0)
    case atStart => rfl
    case round =>
      subst hrel
      go_wp2
      go_ret
      exact ⟨rfl, Below.refl _ _⟩
  · obtain ⟨b, off, cap, rfl, hm, hbw, _, hc⟩ := hv.full hL
    obtain ⟨b', off', cap', rfl, _, hbw', _, hc'⟩ := hv'.full hL
    clear hv hv'
    unfold maxLen at hm
    go_enter Try.func41, Try.ntmps41
    go_wp2
    go_loopw [5] (fun i wr => ∃ k : Nat, i = .int .i64 k ∧ k ≤ Xl.length ∧ Below w.heap.size w wr) (fun i _ => Xl.length - (intOf i).toNat)
    case atStart => exact ⟨0, rfl, by omega, Below.refl _ _⟩
    case round =>
      obtain ⟨k, rfl, hk, hb⟩ := hrel
      by_cases hlt : k < Xl.length
      · have c0 : wr.cell? ⟨b, off + k, none⟩ = some (.string Xl[k]) := by rw [hb.cell (p := ⟨b, _, none⟩) hbw]; exact (hc k hlt).2
        have d0 : wr.cell? ⟨b', off' + k, none⟩ = some (.string Xl[k]) := by rw [hb.cell (p := ⟨b', _, none⟩) hbw']; exact (hc' k hlt).2
        have HB := hide hb
        clear hb
        go_wp2
        try go_quiet (fail)
        try go_wp2
        go_roundw
        case rel => exact ⟨k + 1, by go_num, by omega, by first | exact HB.out | exact below_drewN HB.out _⟩
        case measure => simp [intOf]; omega
      · go_wp2
        go_ret
        exact ⟨rfl, hb⟩

theorem Try.infoRts : (Try.prog.info? 9).map (fun i => (i.zero, i.size, i.bytes)) = some (some (.string ⟨#[]⟩), 1, 16) := by kernel_rfl
def RtsFill (wr : World) (B : Nat) (Xl : List ByteArray) (k : Nat) : Prop := ∃ f, wr.rowIs B 9 Xl.length f ∧ ∀ i (h : i < Xl.length), i < k → RtSize Xl[i] ∧ f i = .string Xl[i]
theorem RtsFill.step {wr : World} {B : Nat} {Xl : List ByteArray} {k : Nat} (h : RtsFill wr B Xl k) (hk : k < Xl.length) (hz : RtSize Xl[k]) : RtsFill (wr.setCell ⟨B, k, none⟩ (.string Xl[k])) B Xl (k + 1) := by
  obtain ⟨f, hr, hall⟩ := h
  refine ⟨_, hr.set _ _, fun i hi hik => ?_⟩
  by_cases e : i = k
  · subst e
    exact ⟨hz, by simp⟩
  · obtain ⟨hz', h0⟩ := hall i hi (by omega)
    exact ⟨hz', by rw [if_neg e]; exact h0⟩
theorem RtsFill.done {wr : World} {B : Nat} {Xl : List ByteArray} {k : Nat} (h : RtsFill wr B Xl k) (hk : Xl.length ≤ k) (hne : Xl ≠ []) (hm : Xl.length ≤ maxLen) : RtsAt B wr (.slice (some ⟨B, 0, none⟩) Xl.length Xl.length) Xl := by
  obtain ⟨f, hr, hall⟩ := h
  refine Or.inr ⟨B, 0, Xl.length, rfl, hne, hm, hr.lt, Nat.le_refl _, Nat.le_refl _, fun i hi => ?_⟩
  obtain ⟨hz, h0⟩ := hall i hi (by omega)
  exact ⟨hz, by rw [Nat.zero_add, hr.cell hi, h0]⟩
theorem RtsFill.there {wr : World} {B : Nat} {Xl : List ByteArray} {k : Nat} (h : RtsFill wr B Xl k) (i : Nat) (hi : i < Xl.length) : ∃ v, wr.cell? ⟨B, i, none⟩ = some v := by
  obtain ⟨f, hr, _⟩ := h
  exact ⟨_, hr.cell hi⟩
theorem RtsFill.free {wr : World} {B : Nat} {Xl : List ByteArray} {k : Nat} (h : RtsFill wr B Xl k) (i : Nat) : wr.frozen? ⟨B, i, none⟩ = false := by
  obtain ⟨f, hr, _⟩ := h
  exact hr.frozen i

set_option maxHeartbeats 1000000 in
theorem toRts_any (lo : Nat) (v : Value) (Xl : List ByteArray) (w : World) (hv : RtsAt lo w v Xl) (hn : RtsSmall Xl) :
    Calls Try.prog 30 #[v] w fun e w' => ∃ v', e = .returned v' ∧ Below w.heap.size w w' ∧ RtsAt w.heap.size w' v' Xl := by
  unfold RtsSmall at hn
  by_cases hL : Xl = []
  · subst hL
    obtain ⟨a, cap, rfl⟩ := hv.form
    clear hv
    have hmk : ∀ u : World, (Instr.makeSlice 28 (.int .i64 0) (.int .i64 0)).run Try.prog u = .ok (.slice (some ⟨u.heap.size, 0, none⟩) 0 0) (u.alloc (.cells (madeCells #[.string ⟨#[]⟩] 0) 9)) :=
      fun u => run_make_row' 28 9 (.string ⟨#[]⟩) 16 Try.underlying28 Try.infoRts rfl .i64 .i64 0 (by omega) (by omega) u
    go_enter Try.func30, Try.ntmps30
    go_wp2
    go_loop [4] (fun i => i = .int .i64 0) (fun _ => 0)
    case atStart => rfl
    case round =>
      subst hrel
      go_wp2
      go_ret
      exact ⟨_, rfl, (Below.refl _ _).alloc (Nat.le_refl _) _, Or.inl ⟨_, _, rfl, rfl⟩⟩
  · obtain ⟨b, off, cap, rfl, hm, hbw, _, hc⟩ := hv.full hL
    clear hv
    have HM : Hid (Xl.length ≤ maxLen) := hm
    unfold maxLen at hm
    have hmk : ∀ u : World, (Instr.makeSlice 28 (.int .i64 (Xl.length : Int)) (.int .i64 (Xl.length : Int))).run Try.prog u = .ok (.slice (some ⟨u.heap.size, 0, none⟩) Xl.length Xl.length) (u.alloc (.cells (madeCells #[.string ⟨#[]⟩] Xl.length) 9)) :=
      fun u => run_make_row' 28 9 (.string ⟨#[]⟩) 16 Try.underlying28 Try.infoRts rfl .i64 .i64 Xl.length (by omega) (by omega) u
    go_enter Try.func30, Try.ntmps30
    go_wp2
    clear hmk
    go_loopw [4] (fun i wr => ∃ k : Nat, i = .int .i64 k ∧ k ≤ Xl.length ∧ Below w.heap.size w wr ∧ RtsFill wr w.heap.size Xl k) (fun i _ => Xl.length - (intOf i).toNat)
    case atStart => exact ⟨0, rfl, by omega, (Below.refl _ _).alloc (Nat.le_refl _) _, ⟨_, World.rowIs_made w (.string ⟨#[]⟩) Xl.length 9, fun i _ h => by omega⟩⟩
    case round =>
      obtain ⟨k, rfl, hk, hb, hf⟩ := hrel
      by_cases hlt : k < Xl.length
      · obtain ⟨hz, hck⟩ := hc k hlt
        rw [← hb.cell (p := ⟨b, off + k, none⟩) hbw] at hck
        obtain ⟨v0, hold⟩ := hf.there k hlt
        have hfz := hf.free k
        have HZ := hide hz
        have HF := hide hf
        have HB := hide hb
        clear hz hf hb
        go_wp2
        go_roundw
        case rel => exact ⟨k + 1, by go_num, by omega, HB.out.setCell (Nat.le_refl _) _, HF.out.step hlt HZ.out⟩
        case measure => simp [intOf]; omega
      · go_wp2
        go_ret
        exact ⟨_, rfl, hb, hf.done (by omega) hL HM.out⟩
end Go.Proofs.Ytfbfgljkiikabaa
namespace Go.Proofs.Ytfbfgljkiikabaa
open Go.RowKit Go.Deep

structure Rd where
  pr : Int
  kn : Int
  sl : List Rs
def RdSmall (U : Rd) : Prop := RssSmall U.sl
structure RdAt (lo : Nat) (w : World) (v0 : Value) (U : Rd) : Prop where
  l0 : RssAt lo w v0 U.sl
theorem RdAt.below {lo : Nat} {w w' : World} {v0 : Value} {U : Rd} (h : RdAt lo w v0 U) (hb : Below w.heap.size w w') : RdAt lo w' v0 U := ⟨h.l0.below hb⟩
theorem RdAt.mono {lo lo' : Nat} {w : World} {v0 : Value} {U : Rd} (h : RdAt lo w v0 U) (hl : lo' ≤ lo) : RdAt lo' w v0 U := ⟨h.l0.mono hl⟩
theorem RdAt.set {lo : Nat} {w : World} {v0 : Value} {U : Rd} (h : RdAt lo w v0 U) {p : Addr} (hp : p.block < lo) (u : Value) : RdAt lo (w.setCell p u) v0 U := ⟨h.l0.set hp u⟩
/-- its cells -/
def rdL (U : Rd) (a0 : Option Addr) (k0 : Nat) : List Value := [.int .i64 U.pr, .int .i64 U.kn, .slice a0 U.sl.length k0]
/-- its cells, and what they lead to -/
def RdC (lo : Nat) (w : World) (cs : List Value) (U : Rd) : Prop := ∃ a0 k0, cs = rdL U a0 k0 ∧ RdAt lo w (.slice a0 U.sl.length k0) U
theorem RdC.below {lo : Nat} {w w' : World} {cs : List Value} {U : Rd} (h : RdC lo w cs U) (hb : Below w.heap.size w w') : RdC lo w' cs U := by
  obtain ⟨a0, k0, h1, h2⟩ := h
  exact ⟨a0, k0, h1, h2.below hb⟩
theorem RdC.mono {lo lo' : Nat} {w : World} {cs : List Value} {U : Rd} (h : RdC lo w cs U) (hl : lo' ≤ lo) : RdC lo' w cs U := by
  obtain ⟨a0, k0, h1, h2⟩ := h
  exact ⟨a0, k0, h1, h2.mono hl⟩
theorem RdC.set {lo : Nat} {w : World} {cs : List Value} {U : Rd} (h : RdC lo w cs U) {p : Addr} (hp : p.block < lo) (u : Value) : RdC lo (w.setCell p u) cs U := by
  obtain ⟨a0, k0, h1, h2⟩ := h
  exact ⟨a0, k0, h1, h2.set hp u⟩
theorem RdC.len {lo : Nat} {w : World} {cs : List Value} {U : Rd} (h : RdC lo w cs U) : cs.length = 3 := by
  obtain ⟨a0, k0, h1, h2⟩ := h
  rw [h1]; rfl
theorem RdC.one {lo : Nat} {w : World} {cs : List Value} {U : Rd} (h : RdC lo w cs U) : Array.all cs.toArray (·.oneCell') = true := by
  obtain ⟨a0, k0, h1, h2⟩ := h
  rw [h1]
  unfold rdL
  simp [Value.oneCell']

set_option maxHeartbeats 8000000 in
theorem szRd_c (lo : Nat) (cs : List Value) (U : Rd) (left : Int) (w : World) (h0 : 0 ≤ left) (h1 : left ≤ 1048576) (h : RdC lo w cs U) :
    Calls Try.prog 20 #[.agg cs.toArray, .int .i64 left] w
      fun e w' => ∃ r : Int, e = .returned (.int .i64 r) ∧ Below w.heap.size w w' ∧ -1 ≤ r ∧ r ≤ left ∧ (0 ≤ r → RdSmall U) := by
  obtain ⟨a0, k0, rfl, h⟩ := h
  show Calls Try.prog 20 #[.agg #[.int .i64 U.pr, .int .i64 U.kn, .slice a0 U.sl.length k0], .int .i64 left] w _
  have HL := hide h
  clear h
  go_enter Try.func20, Try.ntmps20
  go_wp2_with fail
  generalize hWa : w.alloc _ = Wa
  have HB : Hid (Below w.heap.size w Wa) := by unfold Hid; rw [← hWa]; exact one_al _ _
  have FX : Hid (Box Wa w.heap.size #[.int .i64 U.pr, .int .i64 U.kn, .slice a0 U.sl.length k0]) := by unfold Hid; rw [← hWa]; exact Box.new _ _ _ _ rfl
  clear hWa
  refine (szRss_any lo _ U.sl _ _ (by omega) (by omega) ((HL.out.below HB.out).l0)).mono ?_
  rintro e w0 ⟨q0, rfl, hb, p0a, p0b, p0c⟩
  have Q0 := hide p0c
  replace HB := hide (bt HB.out hb)
  replace FX := hide (FX.out.on hb)
  clear hb p0c
  by_cases m0 : q0 < 0
  · go_wp2
    go_ret
    exact ⟨-1, rfl, HB.out, by omega, by omega, fun h => by omega⟩
  go_wp2
  go_ret
  exact ⟨_, rfl, HB.out, by omega, by omega, fun h => Q0.out (by omega)⟩

set_option maxHeartbeats 8000000 in
theorem eqRd_c (lo lo' : Nat) (cs cs' : List Value) (U : Rd) (w : World) (h : RdC lo w cs U) (h' : RdC lo' w cs' U) :
    Calls Try.prog 39 #[.agg cs.toArray, .agg cs'.toArray] w fun e w' => e = .returned (.bool true) ∧ Below w.heap.size w w' := by
  obtain ⟨a0, k0, rfl, h⟩ := h
  obtain ⟨d0, e0, rfl, h'⟩ := h'
  show Calls Try.prog 39 #[.agg #[.int .i64 U.pr, .int .i64 U.kn, .slice a0 U.sl.length k0], .agg #[.int .i64 U.pr, .int .i64 U.kn, .slice d0 U.sl.length e0]] w _
  have HL := hide h
  have HR := hide h'
  clear h h'
  go_enter Try.func39, Try.ntmps39
  go_wp2_with fail
  generalize hWa : (World.alloc (w.alloc _) _) = Wa
  have HB : Hid (Below w.heap.size w Wa) := by unfold Hid; rw [← hWa]; exact (one_al w _).alloc (by simp) _
  have FX : Hid (Box Wa w.heap.size #[.int .i64 U.pr, .int .i64 U.kn, .slice a0 U.sl.length k0]) := by unfold Hid; rw [← hWa]; exact (Box.new _ _ _ _ rfl).on (one_al _ _)
  have FY : Hid (Box Wa (w.heap.size + 1) #[.int .i64 U.pr, .int .i64 U.kn, .slice d0 U.sl.length e0]) := by unfold Hid; rw [← hWa]; exact Box.new _ _ _ _ (by simp)
  clear hWa
  refine (eqRss_same lo lo' _ _ U.sl _ ((HL.out.below HB.out).l0) ((HR.out.below HB.out).l0)).mono ?_
  rintro e w0 ⟨rfl, hb⟩
  replace HB := hide (bt HB.out hb)
  replace FX := hide (FX.out.on hb)
  replace FY := hide (FY.out.on hb)
  clear hb
  have g0 := FX.out.cell
  have g1 := FY.out.cell
  go_wp2
  go_ret
  exact ⟨rfl, HB.out⟩

set_option maxRecDepth 20000 in
set_option maxHeartbeats 16000000 in
theorem toRd_c (lo : Nat) (cs : List Value) (U : Rd) (w : World) (h : RdC lo w cs U) (hn : RdSmall U) :
    Calls Try.prog 28 #[.agg cs.toArray] w
      fun e w' => ∃ cs', e = .returned (.agg cs'.toArray) ∧ Below w.heap.size w w' ∧ RdC w.heap.size w' cs' U := by
  obtain ⟨a0, k0, rfl, h⟩ := h
  show Calls Try.prog 28 #[.agg #[.int .i64 U.pr, .int .i64 U.kn, .slice a0 U.sl.length k0]] w _
  have HL := hide h
  have hn0 := hn
  clear h
  go_enter Try.func28, Try.ntmps28
  go_wp2_with fail
  obtain ⟨wz, hwz, FX, FR, FO, HB⟩ : ∃ wz, wz = ((w.alloc (.cells #[.int .i64 U.pr, .int .i64 U.kn, .slice a0 U.sl.length k0] 26)).alloc (.cells #[.int .i64 0, .int .i64 0, .slice none 0 0] 36)).alloc (.cells #[.int .i64 U.pr, .int .i64 U.kn, .slice none 0 0] 36) ∧
      Hid (Box wz w.heap.size #[.int .i64 U.pr, .int .i64 U.kn, .slice a0 U.sl.length k0]) ∧ Hid (Box wz (w.heap.size + 1) #[.int .i64 0, .int .i64 0, .slice none 0 0]) ∧ Hid (Box wz (w.heap.size + 1 + 1) #[.int .i64 U.pr, .int .i64 U.kn, .slice none 0 0]) ∧ Hid (Below w.heap.size w wz) :=
    ⟨_, rfl, ((Box.new w _ _ _ rfl).on (one_al _ _)).on (one_al _ _), (Box.new _ _ _ _ (by simp)).on (one_al _ _), Box.new _ _ _ _ (by simp), ((one_al _ _).trans ((one_al _ _).mono (by simp))).trans ((one_al _ _).mono (by simp; omega))⟩
  rw [← hwz]
  clear hwz
  generalize wz = v0 at *
  have hz0 : w.heap.size + 3 ≤ v0.heap.size := by have := FO.out.lt; omega
  refine (toRss_any lo _ U.sl _ ((HL.out.below HB.out).l0) hn0).mono ?_
  rintro e x0 ⟨u, rfl, hb, hs⟩
  obtain ⟨b0, m0, rfl⟩ := hs.form
  have N0 := hide (hs.mono hz0)
  replace FX := hide (FX.out.on hb)
  replace FR := hide (FR.out.on hb)
  replace FO := hide (FO.out.on hb)
  replace HB := hide (bt HB.out hb)
  clear hb hs hz0
  have g0 := FO.out.cell
  have g1 := FO.out.free
  have g2 := FR.out.cell
  have g3 := FR.out.free
  have g4 := FX.out.cell
  go_wp2
  refine bodyPost_ret (v := .agg #[.int .i64 U.pr, .int .i64 U.kn, .slice b0 U.sl.length m0]) (by simp [results, Try.results28, go_sem, g2]) rfl ⟨rdL U b0 m0, rfl, ?_, b0, m0, rfl, ⟨?_⟩⟩
  · repeat (refine Below.setCell ?_ (by simp only []; omega) _)
    exact HB.out
  · refine RssAt.mono (lo := w.heap.size + 3) ?_ (by omega)
    repeat (refine RssAt.set ?_ (by simp only []; omega) _)
    exact N0.out
end Go.Proofs.Ytfbfgljkiikabaa
