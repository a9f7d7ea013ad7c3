import Derived.Test.YtfbfgljkiikabaaGreatV02
namespace Go.Proofs.YtfbfgljkiikabaaGreat
open Go.RowKit Go.Deep

/-- ints of one's own -/
def RisOwn (lo hi : Nat) (w : World) (v : Value) (L : List Int) : Prop :=
  (∃ (a : Option Addr) (cap : Nat), v = .slice a 0 cap ∧ L = []) ∨
  ∃ (b off cap : Nat), v = .slice (some ⟨b, off, none⟩) L.length cap ∧ L ≠ [] ∧ L.length ≤ maxLen ∧ L.length ≤ cap ∧ b < w.heap.size ∧
    (∀ i (h : i < L.length), w.cell? ⟨b, off + i, none⟩ = some (.int .i64 L[i])) ∧ lo ≤ b ∧ b < hi ∧ ∀ i, w.frozen? ⟨b, off + i, none⟩ = false
theorem RisOwn.near {lo hi lo' hi' b o n : Nat} {w w' : World} {v : Value} {L : List Int} (h : RisOwn lo hi w v L) (ht : Near b o n lo' hi' w w') (ho : hi ≤ lo' ∨ hi' ≤ lo) (hb : b < lo ∨ hi ≤ b) : RisOwn lo hi w' v L := by
  rcases h with h | ⟨g, off, cap, h1, h2, h3, hcp, h4, h5, h7, h8, h9⟩
  · exact Or.inl h
  · exact Or.inr ⟨g, off, cap, h1, h2, h3, hcp, Nat.lt_of_lt_of_le h4 ht.size, fun i hi' => ((ht.out (p := ⟨g, off + i, none⟩) h4 (by simp only [ne_eq]; omega) (by simp only []; omega)).1).trans (h5 i hi'), h7, h8, fun i => ((ht.out (p := ⟨g, off + i, none⟩) h4 (by simp only [ne_eq]; omega) (by simp only []; omega)).2).trans (h9 i)⟩
theorem RisOwn.below {lo hi : Nat} {w w' : World} {v : Value} {L : List Int} (h : RisOwn lo hi w v L) (hb : Below w.heap.size w w') : RisOwn lo hi w' v L := by
  rcases h with h | ⟨g, off, cap, h1, h2, h3, hcp, h4, h5, h7, h8, h9⟩
  · exact Or.inl h
  · exact Or.inr ⟨g, off, cap, h1, h2, h3, hcp, Nat.lt_of_lt_of_le h4 hb.size, fun i hi' => (hb.cell (p := ⟨g, off + i, none⟩) h4).trans (h5 i hi'), h7, h8, fun i => (hb.frozen (p := ⟨g, off + i, none⟩) h4).trans (h9 i)⟩
theorem RisOwn.touch {lo hi lo' hi' : Nat} {w w' : World} {v : Value} {L : List Int} (h : RisOwn lo hi w v L) (ht : Touch lo' hi' w w') (ho : hi ≤ lo' ∨ hi' ≤ lo) : RisOwn lo hi w' v L := by
  rcases h with h | ⟨b, off, cap, h1, h2, h3, hcp, h4, h5, h7, h8, h9⟩
  · exact Or.inl h
  · exact Or.inr ⟨b, off, cap, h1, h2, h3, hcp, Nat.lt_of_lt_of_le h4 ht.size, fun i hi' => (ht.cell (p := ⟨b, off + i, none⟩) h4 (by simp only []; omega)).trans (h5 i hi'), h7, h8, fun i => (ht.frozen (p := ⟨b, off + i, none⟩) h4 (by simp only []; omega)).trans (h9 i)⟩
theorem RisOwn.at {lo hi : Nat} {w : World} {v : Value} {L : List Int} (h : RisOwn lo hi w v L) : RisAt lo w v L := by
  rcases h with h | ⟨g, off, cap, h1, h2, h3, hcp, h4, h5, h7, h8, h9⟩
  · exact Or.inl h
  · exact Or.inr ⟨g, off, cap, h1, h2, h3, h4, h7, hcp, fun i hi => ⟨rfl, h5 i hi⟩⟩
theorem RisOwn.wide {lo hi lo' hi' : Nat} {w : World} {v : Value} {L : List Int} (h : RisOwn lo hi w v L) (h1 : lo' ≤ lo) (h2 : hi ≤ hi') : RisOwn lo' hi' w v L := by
  rcases h with h | ⟨g, off, cap, e1, e2, e3, hcp, e4, e5, e7, e8, e9⟩
  · exact Or.inl h
  · exact Or.inr ⟨g, off, cap, e1, e2, e3, hcp, e4, e5, by omega, by omega, e9⟩
theorem RisOwn.form {lo hi : Nat} {w : World} {v : Value} {L : List Int} (h : RisOwn lo hi w v L) : ∃ a cap, v = .slice a L.length cap := by
  rcases h with ⟨a, cap, h, rfl⟩ | ⟨b, off, cap, h, _⟩
  · exact ⟨a, cap, h⟩
  · exact ⟨_, cap, h⟩
def imarks (k : Int) (n : Nat) : List Int := (List.range n).map fun (i : Nat) => k + (i : Int)
theorem imarks_len (k : Int) (n : Nat) : (imarks k n).length = n := by simp [imarks]
theorem imarks_get (k : Int) (n i : Nat) (h : i < (imarks k n).length) : (imarks k n)[i] = k + i := by simp [imarks]

set_option maxHeartbeats 1000000 in
theorem markRis_any (lo hi : Nat) (v : Value) (L : List Int) (k : Int) (w : World) (hv : RisOwn lo hi w v L) (h0 : 0 ≤ k) (hk : k + L.length ≤ 4000000000000000000) :
    Calls Tryz.prog 52 #[v, .int .i64 k] w fun e w' => e = .returned (.int .i64 (k + L.length)) ∧ Touch lo hi w w' ∧ RisOwn lo hi w' v (imarks k L.length) := by
  rcases hv with ⟨a, cap, rfl, rfl⟩ | ⟨b, off, cap, rfl, hne, hm, hcp, hbw, hc, hlo, hhi, hfr⟩
  · go_enter Tryz.func52, Tryz.ntmps52
    go_wp2
    go_loop [5, 1] (fun i q => i = .int .i64 0 ∧ q = .int .i64 k) (fun _ _ => 0)
    case atStart => exact ⟨rfl, rfl⟩
    case round =>
      obtain ⟨rfl, rfl⟩ := hrel
      go_wp2
      go_ret
      exact ⟨by simp, Touch.refl _ _ _, Or.inl ⟨_, _, rfl, rfl⟩⟩
  · unfold maxLen at hm
    go_enter Tryz.func52, Tryz.ntmps52
    go_wp2
    go_loopw [5, 1] (fun i q wr => ∃ j : Nat, i = .int .i64 j ∧ q = .int .i64 (k + j) ∧ j ≤ L.length ∧ Touch lo hi w wr ∧ (∀ i, i < j → wr.cell? ⟨b, off + i, none⟩ = some (.int .i64 (k + i))) ∧ (∀ i (h : i < L.length), j ≤ i → wr.cell? ⟨b, off + i, none⟩ = some (.int .i64 L[i])) ∧ ∀ i, wr.frozen? ⟨b, off + i, none⟩ = false) (fun i _ _ => L.length - (intOf i).toNat)
    case atStart => exact ⟨0, rfl, by simp, by omega, Touch.refl _ _ _, fun i h => by omega, fun i h _ => hc i h, hfr⟩
    case round =>
      obtain ⟨j, rfl, rfl, hj, ht, hA, hB, hF⟩ := hrel
      have HT := hide ht
      have HA := hide hA
      have HBB := hide hB
      have HF := hide hF
      clear ht hA hB hF
      by_cases hlt : j < L.length
      · have hcj : wr.cell? ⟨b, off + j, none⟩ = some (.int .i64 L[j]) := HBB.out j hlt (Nat.le_refl _)
        have hfj : wr.frozen? ⟨b, off + j, none⟩ = false := HF.out j
        go_wp2
        go_roundw
        case rel =>
          refine ⟨j + 1, by go_num, by go_num, by omega, HT.out.trans (Touch.setCell _ _ _ _ _ ⟨hlo, hhi⟩), fun i hi' => ?_, fun i h hi' => ?_, fun i => ?_⟩
          · by_cases e : i = j
            · subst e; exact World.cell?_setCell_same' _ _ _ (by rw [hcj]; rfl)
            · rw [show (wr.setCell ⟨b, off + j, none⟩ (.int .i64 (k + j))).cell? ⟨b, off + i, none⟩ = wr.cell? ⟨b, off + i, none⟩ from by apply World.cell?_setCell_other; simp only [ne_eq, Addr.mk.injEq, not_and]; omega]
              exact HA.out i (by omega)
          · rw [show (wr.setCell ⟨b, off + j, none⟩ (.int .i64 (k + j))).cell? ⟨b, off + i, none⟩ = wr.cell? ⟨b, off + i, none⟩ from by apply World.cell?_setCell_other; simp only [ne_eq, Addr.mk.injEq, not_and]; omega]
            exact HBB.out i h (by omega)
          · rw [World.frozen?_setCell]
            exact HF.out i
        case measure => simp [intOf]; omega
      · have e : j = L.length := by omega
        subst e
        go_wp2
        go_ret
        refine ⟨rfl, HT.out, Or.inr ⟨b, off, cap, by rw [imarks_len], ?_, by rw [imarks_len]; unfold maxLen; omega, by rw [imarks_len]; exact hcp, Nat.lt_of_lt_of_le hbw HT.out.size, fun i h => ?_, hlo, hhi, HF.out⟩⟩
        · intro e; have := congrArg List.length e; rw [imarks_len] at this; simp at this; exact hne this
        · rw [imarks_get]; exact HA.out i (by rw [imarks_len] at h; exact h)

set_option maxHeartbeats 1000000 in
theorem heldRis_any (lo : Nat) (v : Value) (n : Nat) (k : Int) (w : World) (hv : RisAt lo w v (imarks k n)) (h0 : 0 ≤ k) (hk : k + n ≤ 4000000000000000000) :
    Calls Tryz.prog 57 #[v, .int .i64 k] w fun e w' => e = .returned (.int .i64 (k + n)) ∧ Below w.heap.size w w' := by
  have HV := hide hv
  obtain ⟨a, cap, rfl⟩ := hv.form
  clear hv
  rw [imarks_len] at HV
  rw [imarks_len]
  go_enter Tryz.func57, Tryz.ntmps57
  go_wp2
  go_loop [5, 1] (fun i q => ∃ j : Nat, i = .int .i64 j ∧ q = .int .i64 (k + j) ∧ j ≤ n) (fun i _ => n - (intOf i).toNat)
  case atStart => exact ⟨0, rfl, by simp, by omega⟩
  case round =>
    obtain ⟨j, rfl, rfl, hj⟩ := hrel
    by_cases hlt : j < n
    · obtain ⟨b, off, rfl, hbw, -, hc⟩ := HV.out.full' (by rw [imarks_len]; omega)
      have hcj : w.cell? ⟨b, off + j, none⟩ = some (.int .i64 (k + j)) := by rw [(hc j (by rw [imarks_len]; omega)).2, imarks_get]
      clear hc
      go_wp2
      go_round
      case rel => exact ⟨j + 1, by go_num, by go_num, by omega⟩
      case measure => simp [intOf]; omega
    · have e : j = n := by omega
      subst e
      go_wp2
      go_ret
      exact ⟨rfl, Below.refl _ _⟩
end Go.Proofs.YtfbfgljkiikabaaGreat
namespace Go.Proofs.YtfbfgljkiikabaaGreat
open Go.RowKit Go.Deep

def RtSize (x : ByteArray) : Prop := x.size ≤ maxLen
def RtsAt (lo : Nat) (w : World) (v : Value) (Xl : List ByteArray) : Prop :=
  (∃ (a : Option Addr) (cap : Nat), v = .slice a 0 cap ∧ Xl = []) ∨
  ∃ (b off cap : Nat), v = .slice (some ⟨b, off, none⟩) Xl.length cap ∧ Xl ≠ [] ∧ Xl.length ≤ maxLen ∧ b < w.heap.size ∧ lo ≤ b ∧ Xl.length ≤ cap ∧
    ∀ i (h : i < Xl.length), RtSize Xl[i] ∧ w.cell? ⟨b, off + i, none⟩ = some (.string Xl[i])
theorem RtsAt.below {lo : Nat} {w w' : World} {v : Value} {Xl : List ByteArray} (h : RtsAt lo w v Xl) (hb : Below w.heap.size w w') : RtsAt lo w' v Xl := by
  rcases h with h | ⟨b, off, cap, h1, h2, h3, h4, h5, h6, h7⟩
  · exact Or.inl h
  · refine Or.inr ⟨b, off, cap, h1, h2, h3, Nat.lt_of_lt_of_le h4 hb.size, h5, h6, fun i hi => ⟨(h7 i hi).1, ?_⟩⟩
    rw [hb.cell (p := ⟨b, _, none⟩) h4]
    exact (h7 i hi).2
theorem RtsAt.mono {lo lo' : Nat} {w : World} {v : Value} {Xl : List ByteArray} (h : RtsAt lo w v Xl) (hl : lo' ≤ lo) : RtsAt lo' w v Xl := by
  rcases h with h | ⟨b, off, cap, h1, h2, h3, h4, h5, h6, h7⟩
  · exact Or.inl h
  · exact Or.inr ⟨b, off, cap, h1, h2, h3, h4, Nat.le_trans hl h5, h6, h7⟩
theorem RtsAt.set {lo : Nat} {w : World} {v : Value} {Xl : List ByteArray} (h : RtsAt lo w v Xl) {p : Addr} (hp : p.block < lo) (u : Value) : RtsAt lo (w.setCell p u) v Xl := by
  rcases h with h | ⟨b, off, cap, h1, h2, h3, h4, h5, h6, h7⟩
  · exact Or.inl h
  · refine Or.inr ⟨b, off, cap, h1, h2, h3, by simpa [World.setCell] using h4, h5, h6, fun i hi => ⟨(h7 i hi).1, ?_⟩⟩
    rw [cell_setCell_ne _ _ _ _ (by show b ≠ p.block; omega)]
    exact (h7 i hi).2
theorem RtsAt.form {lo : Nat} {w : World} {v : Value} {Xl : List ByteArray} (h : RtsAt lo w v Xl) : ∃ a cap, v = .slice a Xl.length cap := by
  rcases h with ⟨a, cap, h, rfl⟩ | ⟨b, off, cap, h, _⟩
  · exact ⟨a, cap, h⟩
  · exact ⟨_, cap, h⟩
theorem RtsAt.max {lo : Nat} {w : World} {v : Value} {Xl : List ByteArray} (h : RtsAt lo w v Xl) : Xl.length ≤ maxLen := by
  rcases h with ⟨a, cap, h, rfl⟩ | ⟨b, off, cap, h, _, h3, _⟩
  · exact Nat.zero_le _
  · exact h3
theorem RtsAt.full {lo : Nat} {w : World} {v : Value} {Xl : List ByteArray} (h : RtsAt lo w v Xl) (hne : Xl ≠ []) : ∃ (b off cap : Nat), v = .slice (some ⟨b, off, none⟩) Xl.length cap ∧ Xl.length ≤ maxLen ∧ b < w.heap.size ∧ Xl.length ≤ cap ∧
    ∀ i (h : i < Xl.length), RtSize Xl[i] ∧ w.cell? ⟨b, off + i, none⟩ = some (.string Xl[i]) := by
  rcases h with ⟨_, _, _, h⟩ | ⟨b, off, cap, h1, _, h3, h4, _, h6, h7⟩
  · exact absurd h hne
  · exact ⟨b, off, cap, h1, h3, h4, h6, h7⟩
theorem RtsAt.full' {lo : Nat} {w : World} {a : Option Addr} {n cap : Nat} {Xl : List ByteArray} (h : RtsAt lo w (.slice a n cap) Xl) (hL : 0 < Xl.length) :
    ∃ b off, a = some ⟨b, off, none⟩ ∧ b < w.heap.size ∧ lo ≤ b ∧ ∀ i (h : i < Xl.length), RtSize Xl[i] ∧ w.cell? ⟨b, off + i, none⟩ = some (.string Xl[i]) := by
  rcases h with ⟨a', cap', h, rfl⟩ | ⟨b', off', cap', h1, h2, h3, h4, h5, h6, h7⟩
  · simp at hL
  · injection h1 with e1 e2 e3
    exact ⟨b', off', e1, h4, h5, h7⟩
def RtsSmall (Xl : List ByteArray) : Prop := Xl.length ≤ 1048576
def SzRts (Xl : List ByteArray) (left r : Int) : Prop := -1 ≤ r ∧ r ≤ left ∧ (0 ≤ r → RtsSmall Xl)

set_option maxHeartbeats 1000000 in
theorem szRts_any (lo : Nat) (v : Value) (Xl : List ByteArray) (left : Int) (w : World) (h0 : 0 ≤ left) (h1 : left ≤ 1048576) (hv : RtsAt lo w v Xl) :
    Calls Tryz.prog 26 #[v, .int .i64 left] w fun e w' => ∃ r : Int, e = .returned (.int .i64 r) ∧ Below w.heap.size w w' ∧ SzRts Xl left r := by
  rcases hv with ⟨a, cap, rfl, rfl⟩ | ⟨b, off, cap, rfl, hne, hm, hbw, _, _, hc⟩
  · go_enter Tryz.func26, Tryz.ntmps26
    go_wp2
    go_loop [1, 5] (fun l i => ∃ r : Int, l = .int .i64 r ∧ 0 ≤ r ∧ r ≤ left ∧ i = .int .i64 0) (fun _ _ => 0)
    case atStart => exact ⟨_, rfl, by omega, by omega, rfl⟩
    case round =>
      obtain ⟨r, rfl, hr0, hr1, rfl⟩ := hrel
      go_wp2
      go_ret
      exact ⟨r, rfl, Below.refl _ _, by omega, by omega, fun _ => by unfold RtsSmall; simp⟩
  · unfold maxLen at hm
    by_cases hle : (Xl.length : Int) ≤ left
    · go_enter Tryz.func26, Tryz.ntmps26
      go_wp2
      go_loopw [1, 5] (fun l i wr => ∃ (r : Int) (k : Nat), l = .int .i64 r ∧ 0 ≤ r ∧ r ≤ left ∧ i = .int .i64 k ∧ k ≤ Xl.length ∧ Below w.heap.size w wr) (fun _ i _ => Xl.length - (intOf i).toNat)
      case atStart => exact ⟨_, 0, rfl, by omega, by omega, rfl, by omega, Below.refl _ _⟩
      case round =>
        obtain ⟨r, k, rfl, hr0, hr1, rfl, hk, hb⟩ := hrel
        by_cases hlt : k < Xl.length
        · obtain ⟨hs, c0⟩ := hc k hlt
          unfold RtSize maxLen at hs
          rw [← hb.cell (p := ⟨b, off + k, none⟩) hbw] at c0
          have HB := hide hb
          clear hb
          by_cases hneg : r - (Xl[k].size : Int) < 0
          · go_wp2
            go_ret
            exact ⟨-1, rfl, HB.out, by omega, by omega, fun h => by omega⟩
          · go_wp2
            go_roundw
            case rel => exact ⟨_, k + 1, rfl, by omega, by omega, by go_num, by omega, HB.out⟩
            case measure => simp [intOf]; omega
        · go_wp2
          go_ret
          exact ⟨r, rfl, hb, by omega, by omega, fun _ => by unfold RtsSmall; omega⟩
    · go_enter Tryz.func26, Tryz.ntmps26
      go_wp2
      go_ret
      exact ⟨-1, rfl, Below.refl _ _, by omega, by omega, fun h => by omega⟩

set_option maxHeartbeats 1000000 in
theorem eqRts_same (lo lo' : Nat) (v v' : Value) (Xl : List ByteArray) (w : World) (hv : RtsAt lo w v Xl) (hv' : RtsAt lo' w v' Xl) :
    Calls Tryz.prog 46 #[v, v'] w fun e w' => e = .returned (.bool true) ∧ Below w.heap.size w w' := by
  by_cases hL : Xl = []
  · subst hL
    obtain ⟨a, cap, rfl⟩ := hv.form
    obtain ⟨a', cap', rfl⟩ := hv'.form
    clear hv hv'
    go_enter Tryz.func46, Tryz.ntmps46
    go_wp2
    go_loop [5] (fun i => i = .int .i64 0) (fun _ => 0)
    case atStart => rfl
    case round =>
      subst hrel
      go_wp2
      go_ret
      exact ⟨rfl, Below.refl _ _⟩
  · obtain ⟨b, off, cap, rfl, hm, hbw, _, hc⟩ := hv.full hL
    obtain ⟨b', off', cap', rfl, _, hbw', _, hc'⟩ := hv'.full hL
    clear hv hv'
    unfold maxLen at hm
    go_enter Tryz.func46, Tryz.ntmps46
    go_wp2
    go_loopw [5] (fun i wr => ∃ k : Nat, i = .int .i64 k ∧ k ≤ Xl.length ∧ Below w.heap.size w wr) (fun i _ => Xl.length - (intOf i).toNat)
    case atStart => exact ⟨0, rfl, by omega, Below.refl _ _⟩
    case round =>
      obtain ⟨k, rfl, hk, hb⟩ := hrel
      by_cases hlt : k < Xl.length
      · have c0 : wr.cell? ⟨b, off + k, none⟩ = some (.string Xl[k]) := by rw [hb.cell (p := ⟨b, _, none⟩) hbw]; exact (hc k hlt).2
        have d0 : wr.cell? ⟨b', off' + k, none⟩ = some (.string Xl[k]) := by rw [hb.cell (p := ⟨b', _, none⟩) hbw']; exact (hc' k hlt).2
        have HB := hide hb
        clear hb
        go_wp2
        try go_quiet (fail)
        try go_wp2
        go_roundw
        case rel => exact ⟨k + 1, by go_num, by omega, by first | exact HB.out | exact below_drewN HB.out _⟩
        case measure => simp [intOf]; omega
      · go_wp2
        go_ret
        exact ⟨rfl, hb⟩

theorem Tryz.infoRts : (Tryz.prog.info? 9).map (fun i => (i.zero, i.size, i.bytes)) = some (some (.string ⟨#[]⟩), 1, 16) := by kernel_rfl
def RtsFill (wr : World) (B : Nat) (Xl : List ByteArray) (k : Nat) : Prop := ∃ f, wr.rowIs B 9 Xl.length f ∧ ∀ i (h : i < Xl.length), i < k → RtSize Xl[i] ∧ f i = .string Xl[i]
theorem RtsFill.step {wr : World} {B : Nat} {Xl : List ByteArray} {k : Nat} (h : RtsFill wr B Xl k) (hk : k < Xl.length) (hz : RtSize Xl[k]) : RtsFill (wr.setCell ⟨B, k, none⟩ (.string Xl[k])) B Xl (k + 1) := by
  obtain ⟨f, hr, hall⟩ := h
  refine ⟨_, hr.set _ _, fun i hi hik => ?_⟩
  by_cases e : i = k
  · subst e
    exact ⟨hz, by simp⟩
  · obtain ⟨hz', h0⟩ := hall i hi (by omega)
    exact ⟨hz', by rw [if_neg e]; exact h0⟩
theorem RtsFill.done {wr : World} {B : Nat} {Xl : List ByteArray} {k : Nat} (h : RtsFill wr B Xl k) (hk : Xl.length ≤ k) (hne : Xl ≠ []) (hm : Xl.length ≤ maxLen) : RtsAt B wr (.slice (some ⟨B, 0, none⟩) Xl.length Xl.length) Xl := by
  obtain ⟨f, hr, hall⟩ := h
  refine Or.inr ⟨B, 0, Xl.length, rfl, hne, hm, hr.lt, Nat.le_refl _, Nat.le_refl _, fun i hi => ?_⟩
  obtain ⟨hz, h0⟩ := hall i hi (by omega)
  exact ⟨hz, by rw [Nat.zero_add, hr.cell hi, h0]⟩
theorem RtsFill.there {wr : World} {B : Nat} {Xl : List ByteArray} {k : Nat} (h : RtsFill wr B Xl k) (i : Nat) (hi : i < Xl.length) : ∃ v, wr.cell? ⟨B, i, none⟩ = some v := by
  obtain ⟨f, hr, _⟩ := h
  exact ⟨_, hr.cell hi⟩
theorem RtsFill.free {wr : World} {B : Nat} {Xl : List ByteArray} {k : Nat} (h : RtsFill wr B Xl k) (i : Nat) : wr.frozen? ⟨B, i, none⟩ = false := by
  obtain ⟨f, hr, _⟩ := h
  exact hr.frozen i

set_option maxHeartbeats 1000000 in
theorem toRts_any (lo : Nat) (v : Value) (Xl : List ByteArray) (w : World) (hv : RtsAt lo w v Xl) (hn : RtsSmall Xl) :
    Calls Tryz.prog 37 #[v] w fun e w' => ∃ v', e = .returned v' ∧ Below w.heap.size w w' ∧ RtsAt w.heap.size w' v' Xl := by
  unfold RtsSmall at hn
  by_cases hL : Xl = []
  · subst hL
    obtain ⟨a, cap, rfl⟩ := hv.form
    clear hv
    have hmk : ∀ u : World, (Instr.makeSlice 26 (.int .i64 0) (.int .i64 0)).run Tryz.prog u = .ok (.slice (some ⟨u.heap.size, 0, none⟩) 0 0) (u.alloc (.cells (madeCells #[.string ⟨#[]⟩] 0) 9)) :=
      fun u => run_make_row' 26 9 (.string ⟨#[]⟩) 16 Tryz.underlying26 Tryz.infoRts rfl .i64 .i64 0 (by omega) (by omega) u
    go_enter Tryz.func37, Tryz.ntmps37
    go_wp2
    go_loop [4] (fun i => i = .int .i64 0) (fun _ => 0)
    case atStart => rfl
    case round =>
      subst hrel
      go_wp2
      go_ret
      exact ⟨_, rfl, (Below.refl _ _).alloc (Nat.le_refl _) _, Or.inl ⟨_, _, rfl, rfl⟩⟩
  · obtain ⟨b, off, cap, rfl, hm, hbw, _, hc⟩ := hv.full hL
    clear hv
    have HM : Hid (Xl.length ≤ maxLen) := hm
    unfold maxLen at hm
    have hmk : ∀ u : World, (Instr.makeSlice 26 (.int .i64 (Xl.length : Int)) (.int .i64 (Xl.length : Int))).run Tryz.prog u = .ok (.slice (some ⟨u.heap.size, 0, none⟩) Xl.length Xl.length) (u.alloc (.cells (madeCells #[.string ⟨#[]⟩] Xl.length) 9)) :=
      fun u => run_make_row' 26 9 (.string ⟨#[]⟩) 16 Tryz.underlying26 Tryz.infoRts rfl .i64 .i64 Xl.length (by omega) (by omega) u
    go_enter Tryz.func37, Tryz.ntmps37
    go_wp2
    clear hmk
    go_loopw [4] (fun i wr => ∃ k : Nat, i = .int .i64 k ∧ k ≤ Xl.length ∧ Below w.heap.size w wr ∧ RtsFill wr w.heap.size Xl k) (fun i _ => Xl.length - (intOf i).toNat)
    case atStart => exact ⟨0, rfl, by omega, (Below.refl _ _).alloc (Nat.le_refl _) _, ⟨_, World.rowIs_made w (.string ⟨#[]⟩) Xl.length 9, fun i _ h => by omega⟩⟩
    case round =>
      obtain ⟨k, rfl, hk, hb, hf⟩ := hrel
      by_cases hlt : k < Xl.length
      · obtain ⟨hz, hck⟩ := hc k hlt
        rw [← hb.cell (p := ⟨b, off + k, none⟩) hbw] at hck
        obtain ⟨v0, hold⟩ := hf.there k hlt
        have hfz := hf.free k
        have HZ := hide hz
        have HF := hide hf
        have HB := hide hb
        clear hz hf hb
        go_wp2
        go_roundw
        case rel => exact ⟨k + 1, by go_num, by omega, HB.out.setCell (Nat.le_refl _) _, HF.out.step hlt HZ.out⟩
        case measure => simp [intOf]; omega
      · go_wp2
        go_ret
        exact ⟨_, rfl, hb, hf.done (by omega) hL HM.out⟩
end Go.Proofs.YtfbfgljkiikabaaGreat
namespace Go.Proofs.YtfbfgljkiikabaaGreat
open Go.RowKit Go.Deep

/-- texts of one's own -/
def RtsOwn (lo hi : Nat) (w : World) (v : Value) (L : List ByteArray) : Prop :=
  (∃ (a : Option Addr) (cap : Nat), v = .slice a 0 cap ∧ L = []) ∨
  ∃ (b off cap : Nat), v = .slice (some ⟨b, off, none⟩) L.length cap ∧ L ≠ [] ∧ L.length ≤ maxLen ∧ L.length ≤ cap ∧ b < w.heap.size ∧
    (∀ i (h : i < L.length), L[i].size ≤ maxLen ∧ w.cell? ⟨b, off + i, none⟩ = some (.string L[i])) ∧ lo ≤ b ∧ b < hi ∧ ∀ i, w.frozen? ⟨b, off + i, none⟩ = false
theorem RtsOwn.below {lo hi : Nat} {w w' : World} {v : Value} {L : List ByteArray} (h : RtsOwn lo hi w v L) (hb : Below w.heap.size w w') : RtsOwn lo hi w' v L := by
  rcases h with h | ⟨g, off, cap, h1, h2, h3, hcp, h4, h5, h7, h8, h9⟩
  · exact Or.inl h
  · exact Or.inr ⟨g, off, cap, h1, h2, h3, hcp, Nat.lt_of_lt_of_le h4 hb.size, fun i hi' => ⟨(h5 i hi').1, (hb.cell (p := ⟨g, off + i, none⟩) h4).trans (h5 i hi').2⟩, h7, h8, fun i => (hb.frozen (p := ⟨g, off + i, none⟩) h4).trans (h9 i)⟩
theorem RtsOwn.touch {lo hi lo' hi' : Nat} {w w' : World} {v : Value} {L : List ByteArray} (h : RtsOwn lo hi w v L) (ht : Touch lo' hi' w w') (ho : hi ≤ lo' ∨ hi' ≤ lo) : RtsOwn lo hi w' v L := by
  rcases h with h | ⟨b, off, cap, h1, h2, h3, hcp, h4, h5, h7, h8, h9⟩
  · exact Or.inl h
  · exact Or.inr ⟨b, off, cap, h1, h2, h3, hcp, Nat.lt_of_lt_of_le h4 ht.size, fun i hi' => ⟨(h5 i hi').1, (ht.cell (p := ⟨b, off + i, none⟩) h4 (by simp only []; omega)).trans (h5 i hi').2⟩, h7, h8, fun i => (ht.frozen (p := ⟨b, off + i, none⟩) h4 (by simp only []; omega)).trans (h9 i)⟩
theorem RtsOwn.at {lo hi : Nat} {w : World} {v : Value} {L : List ByteArray} (h : RtsOwn lo hi w v L) : RtsAt lo w v L := by
  rcases h with h | ⟨g, off, cap, h1, h2, h3, hcp, h4, h5, h7, h8, h9⟩
  · exact Or.inl h
  · exact Or.inr ⟨g, off, cap, h1, h2, h3, h4, h7, hcp, h5⟩
theorem RtsOwn.wide {lo hi lo' hi' : Nat} {w : World} {v : Value} {L : List ByteArray} (h : RtsOwn lo hi w v L) (h1 : lo' ≤ lo) (h2 : hi ≤ hi') : RtsOwn lo' hi' w v L := by
  rcases h with h | ⟨g, off, cap, e1, e2, e3, hcp, e4, e5, e7, e8, e9⟩
  · exact Or.inl h
  · exact Or.inr ⟨g, off, cap, e1, e2, e3, hcp, e4, e5, by omega, by omega, e9⟩
theorem RtsOwn.form {lo hi : Nat} {w : World} {v : Value} {L : List ByteArray} (h : RtsOwn lo hi w v L) : ∃ a cap, v = .slice a L.length cap := by
  rcases h with ⟨a, cap, h, rfl⟩ | ⟨b, off, cap, h, _⟩
  · exact ⟨a, cap, h⟩
  · exact ⟨_, cap, h⟩
def tmarks (k : Int) (n : Nat) : List ByteArray := (List.range n).map fun (i : Nat) => mtB (k + (i : Int))
theorem tmarks_len (k : Int) (n : Nat) : (tmarks k n).length = n := by simp [tmarks]
theorem tmarks_get (k : Int) (n i : Nat) (h : i < (tmarks k n).length) : (tmarks k n)[i] = mtB (k + i) := by simp [tmarks]

set_option maxHeartbeats 2000000 in
theorem markRts_any (lo hi : Nat) (v : Value) (L : List ByteArray) (k : Int) (w : World) (hv : RtsOwn lo hi w v L) (h0 : 0 ≤ k) (hk : k + L.length ≤ 4000000000000000000) :
    Calls Tryz.prog 51 #[v, .int .i64 k] w fun e w' => e = .returned (.int .i64 (k + L.length)) ∧ Touch lo hi w w' ∧ RtsOwn lo hi w' v (tmarks k L.length) := by
  rcases hv with ⟨a, cap, rfl, rfl⟩ | ⟨b, off, cap, rfl, hne, hm, hcp, hbw, hc, hlo, hhi, hfr⟩
  · go_enter Tryz.func51, Tryz.ntmps51
    go_wp2
    go_loop [5, 1] (fun i q => i = .int .i64 0 ∧ q = .int .i64 k) (fun _ _ => 0)
    case atStart => exact ⟨rfl, rfl⟩
    case round =>
      obtain ⟨rfl, rfl⟩ := hrel
      go_wp2
      go_ret
      exact ⟨by simp, Touch.refl _ _ _, Or.inl ⟨_, _, rfl, rfl⟩⟩
  · unfold maxLen at hm
    go_enter Tryz.func51, Tryz.ntmps51
    go_wp2
    go_loopw [5, 1] (fun i q wr => ∃ j : Nat, i = .int .i64 j ∧ q = .int .i64 (k + j) ∧ j ≤ L.length ∧ Touch lo hi w wr ∧ (∀ i, i < j → wr.cell? ⟨b, off + i, none⟩ = some (.string (mtB (k + i)))) ∧ (∀ i (h : i < L.length), j ≤ i → wr.cell? ⟨b, off + i, none⟩ = some (.string L[i])) ∧ ∀ i, wr.frozen? ⟨b, off + i, none⟩ = false) (fun i _ _ => L.length - (intOf i).toNat)
    case atStart => exact ⟨0, rfl, by simp, by omega, Touch.refl _ _ _, fun i h => by omega, fun i h _ => (hc i h).2, hfr⟩
    case round =>
      obtain ⟨j, rfl, rfl, hj, ht, hA, hB, hF⟩ := hrel
      have HT := hide ht
      have HA := hide hA
      have HBB := hide hB
      have HF := hide hF
      clear ht hA hB hF
      by_cases hlt : j < L.length
      · go_wp2_with fail
        refine (markText_any _ _ (by omega)).mono ?_
        rintro e w1 ⟨rfl, hb⟩
        have hbl : b < wr.heap.size := Nat.lt_of_lt_of_le hbw HT.out.size
        have HT1 : Hid (Touch lo hi w w1) := HT.out.trans (Touch.below hb)
        have hcj : w1.cell? ⟨b, off + j, none⟩ = some (.string L[j]) := (hb.cell (p := ⟨b, off + j, none⟩) hbl).trans (HBB.out j hlt (Nat.le_refl _))
        have hfj : w1.frozen? ⟨b, off + j, none⟩ = false := (hb.frozen (p := ⟨b, off + j, none⟩) hbl).trans (HF.out j)
        have HA1 : Hid (∀ i, i < j → w1.cell? ⟨b, off + i, none⟩ = some (.string (mtB (k + i)))) := fun i hi' => (hb.cell (p := ⟨b, off + i, none⟩) hbl).trans (HA.out i hi')
        have HB1 : Hid (∀ i (h : i < L.length), j ≤ i → w1.cell? ⟨b, off + i, none⟩ = some (.string L[i])) := fun i h hi' => (hb.cell (p := ⟨b, off + i, none⟩) hbl).trans (HBB.out i h hi')
        have HF1 : Hid (∀ i, w1.frozen? ⟨b, off + i, none⟩ = false) := fun i => (hb.frozen (p := ⟨b, off + i, none⟩) hbl).trans (HF.out i)
        clear hb hbl
        go_wp2
        go_roundw
        case rel =>
          refine ⟨j + 1, by go_num, by go_num, by omega, HT1.out.trans (Touch.setCell _ _ _ _ _ ⟨hlo, hhi⟩), fun i hi' => ?_, fun i h hi' => ?_, fun i => ?_⟩
          · by_cases e : i = j
            · subst e; exact World.cell?_setCell_same' _ _ _ (by rw [hcj]; rfl)
            · rw [show (w1.setCell ⟨b, off + j, none⟩ (.string (mtB (k + j)))).cell? ⟨b, off + i, none⟩ = w1.cell? ⟨b, off + i, none⟩ from by apply World.cell?_setCell_other; simp only [ne_eq, Addr.mk.injEq, not_and]; omega]
              exact HA1.out i (by omega)
          · rw [show (w1.setCell ⟨b, off + j, none⟩ (.string (mtB (k + j)))).cell? ⟨b, off + i, none⟩ = w1.cell? ⟨b, off + i, none⟩ from by apply World.cell?_setCell_other; simp only [ne_eq, Addr.mk.injEq, not_and]; omega]
            exact HB1.out i h (by omega)
          · rw [World.frozen?_setCell]
            exact HF1.out i
        case measure => simp [intOf]; omega
      · have e : j = L.length := by omega
        subst e
        go_wp2
        go_ret
        refine ⟨rfl, HT.out, Or.inr ⟨b, off, cap, by rw [tmarks_len], ?_, by rw [tmarks_len]; unfold maxLen; omega, by rw [tmarks_len]; exact hcp, Nat.lt_of_lt_of_le hbw HT.out.size, fun i h => ?_, hlo, hhi, HF.out⟩⟩
        · intro e; have := congrArg List.length e; rw [tmarks_len] at this; simp at this; exact hne this
        · rw [tmarks_get]
          rw [tmarks_len] at h
          exact ⟨mt_size _ (by omega), HA.out i h⟩

set_option maxRecDepth 20000 in
set_option maxHeartbeats 2000000 in
theorem heldRts_any (lo : Nat) (v : Value) (n : Nat) (k : Int) (w : World) (hv : RtsAt lo w v (tmarks k n)) (h0 : 0 ≤ k) (hk : k + n ≤ 4000000000000000000) :
    Calls Tryz.prog 56 #[v, .int .i64 k] w fun e w' => e = .returned (.int .i64 (k + n)) ∧ Below w.heap.size w w' := by
  have HV := hide hv
  obtain ⟨a, cap, rfl⟩ := hv.form
  clear hv
  rw [tmarks_len] at HV
  rw [tmarks_len]
  go_enter Tryz.func56, Tryz.ntmps56
  go_wp2
  go_loopw [5, 1] (fun i q wr => ∃ j : Nat, i = .int .i64 j ∧ q = .int .i64 (k + j) ∧ j ≤ n ∧ Below w.heap.size w wr) (fun i _ _ => n - (intOf i).toNat)
  case atStart => exact ⟨0, rfl, by simp, by omega, Below.refl _ _⟩
  case round =>
    obtain ⟨j, rfl, rfl, hj, hb⟩ := hrel
    have HB0 := hide hb
    clear hb
    by_cases hlt : j < n
    · obtain ⟨b, off, rfl, hbw, -, hc⟩ := HV.out.full' (by rw [tmarks_len]; omega)
      have hcj : w.cell? ⟨b, off + j, none⟩ = some (.string (mtB (k + j))) := by rw [(hc j (by rw [tmarks_len]; omega)).2, tmarks_get]
      have d1 : wr.cell? ⟨b, off + j, none⟩ = some (.string (mtB (k + j))) := (HB0.out.cell (p := ⟨b, off + j, none⟩) hbw).trans hcj
      have x0 : ∀ X : In (Up wr), X.w.cell? ⟨b, off + j, none⟩ = some (.string (mtB (k + j))) := fun X => Up.cell X d1
      have xn : Nonempty (In (Up wr)) := ⟨⟨wr, Below.refl _ _⟩⟩
      have xs := fun (X : In (Up wr)) => in_self X
      have i0 : (0 : Int) ≤ (j : Int) := by omega
      have i1 : (j : Int) < (n : Int) := by omega
      clear hc hcj
      go_wp2
      clear d1
      refine wp_region_class (Up wr) (by kernel_rfl) (by kernel_rfl) ((Below.refl _ _).drew) ?_
      repeat (go_big_quiet_step (first | (go_at_call 73; rename_i X; exact (markText_any _ _ (by omega)).mono fun _ _ h => ⟨h.1, Up.next X h.2⟩)))
      refine wpQuiet_nil ?_
      intro w1 hw
      obtain ⟨Y, hY⟩ := hw
      have HB1 : Hid (Below w.heap.size w w1) := HB0.out.trans (Below.mono (show Below wr.heap.size wr w1 by rw [hY]; exact Y.h) HB0.out.size)
      clear hY Y x0 xs xn HB0
      go_wp2
      go_roundw
      case rel => exact ⟨j + 1, by go_num, by go_num, by omega, HB1.out⟩
      case measure => simp [intOf]; omega
    · have e : j = n := by omega
      subst e
      go_wp2
      go_ret
      exact ⟨rfl, HB0.out⟩
end Go.Proofs.YtfbfgljkiikabaaGreat
