import Derived.Test.YtgnodlkdjpnmoaaW4
import Derived.Deep.OwnRows
namespace Go.Proofs.Ytgnodlkdjpnmoaa
open Go.RowKit Go.Deep

set_option maxHeartbeats 400000 in
theorem eqStrs_same (v v' : Value) (L : List ByteArray) (w : World) (hv : StrsAt w v L) (hv' : StrsAt w v' L) :
    Calls Try.prog 16 #[v, v'] w fun e w' => e = .returned (.bool true) ∧ Below w.heap.size w w' := by
  by_cases hL : L = []
  · subst hL
    obtain ⟨a, cap, rfl⟩ : ∃ a cap, v = .slice a 0 cap := by
      rcases hv with ⟨a, cap, h, _⟩ | ⟨b, off, cap, h, hne, _⟩
      · exact ⟨a, cap, h⟩
      · exact absurd rfl hne
    obtain ⟨a', cap', rfl⟩ : ∃ a cap, v' = .slice a 0 cap := by
      rcases hv' with ⟨a, cap, h, _⟩ | ⟨b, off, cap, h, hne, _⟩
      · exact ⟨a, cap, h⟩
      · exact absurd rfl hne
    clear hv hv'
    go_enter Try.func16, Try.ntmps16
    go_wp2
    go_loop [5] (fun i => i = .int .i64 0) (fun _ => 0)
    case atStart => rfl
    case round =>
      subst hrel
      go_wp2
      go_ret
      exact ⟨rfl, Below.refl _ _⟩
  · obtain ⟨b, off, cap, rfl, hm, hbw, hc⟩ : ∃ b off cap, v = .slice (some ⟨b, off, none⟩) L.length cap ∧ L.length ≤ maxLen ∧ b < w.heap.size ∧ ∀ i (h : i < L.length), w.cell? ⟨b, off + i, none⟩ = some (.string L[i]) := by
      rcases hv with ⟨a, cap, h, h'⟩ | ⟨b, off, cap, h, hne, hm, hbw, hc, _⟩
      · exact absurd h' hL
      · exact ⟨b, off, cap, h, hm, hbw, hc⟩
    obtain ⟨b', off', cap', rfl, _, hbw', hc'⟩ : ∃ b off cap, v' = .slice (some ⟨b, off, none⟩) L.length cap ∧ L.length ≤ maxLen ∧ b < w.heap.size ∧ ∀ i (h : i < L.length), w.cell? ⟨b, off + i, none⟩ = some (.string L[i]) := by
      rcases hv' with ⟨a, cap, h, h'⟩ | ⟨b, off, cap, h, hne, hm, hbw, hc, _⟩
      · exact absurd h' hL
      · exact ⟨b, off, cap, h, hm, hbw, hc⟩
    clear hv hv'
    unfold maxLen at hm
    go_enter Try.func16, Try.ntmps16
    go_wp2
    go_loopw [5] (fun i wr => ∃ k : Nat, i = .int .i64 k ∧ k ≤ L.length ∧ Below w.heap.size w wr) (fun i _ => L.length - (intOf i).toNat)
    case atStart => exact ⟨0, rfl, by omega, Below.refl _ _⟩
    case round =>
      obtain ⟨k, rfl, hk, hb⟩ := hrel
      by_cases hlt : k < L.length
      · have hck : wr.cell? ⟨b, off + k, none⟩ = some (.string L[k]) := by rw [hb.cell (p := ⟨b, off + k, none⟩) hbw]; exact hc k hlt
        have hck' : wr.cell? ⟨b', off' + k, none⟩ = some (.string L[k]) := by rw [hb.cell (p := ⟨b', off' + k, none⟩) hbw']; exact hc' k hlt
        go_wp2
        go_quiet (fail)
        go_wp2
        go_roundw
        case rel => exact ⟨k + 1, by go_num, by omega, below_drewN hb _⟩
        case measure => simp [intOf]; omega
      · go_wp2
        go_ret
        exact ⟨rfl, hb⟩

theorem Try.info9 : (Try.prog.info? 9).map (fun i => (i.zero, i.size, i.bytes)) = some (some (.string ⟨#[]⟩), 1, 16) := by kernel_rfl

/-- the first k of a new row are set -/
def fillF (L : List ByteArray) (k i : Nat) : Value := if i < k then .string (L.getD i ⟨#[]⟩) else .string ⟨#[]⟩
def Filled (wr : World) (B : Nat) (L : List ByteArray) (k : Nat) : Prop := wr.rowIs B 9 L.length (fillF L k)
theorem Filled.step {wr : World} {B : Nat} {L : List ByteArray} {k : Nat} (h : Filled wr B L k) (hk : k < L.length) : Filled (wr.setCell ⟨B, k, none⟩ (.string L[k])) B L (k + 1) := by
  unfold Filled at *
  refine (h.set k (.string L[k])).congr fun i hi => ?_
  unfold fillF
  by_cases e : i = k
  · subst e; simp [hk]
  · by_cases e2 : i < k
    · simp [e, e2, Nat.lt_succ_of_lt e2]
    · have : ¬ i < k + 1 := by omega
      simp [e, e2, this]
theorem Filled.old {wr : World} {B : Nat} {L : List ByteArray} {k : Nat} (h : Filled wr B L k) (hk : k < L.length) : ∃ v, wr.cell? ⟨B, k, none⟩ = some v := ⟨_, World.rowIs.cell h hk⟩
theorem Filled.frozen {wr : World} {B : Nat} {L : List ByteArray} {k : Nat} (h : Filled wr B L k) (i : Nat) : wr.frozen? ⟨B, i, none⟩ = false := World.rowIs.frozen h i
/-- .. AND ITS CELLS LIE FROM BLOCK lo ON. -/
def StrsIn (lo : Nat) (w : World) (v : Value) (L : List ByteArray) : Prop :=
  (∃ (a : Option Addr) (cap : Nat), v = .slice a 0 cap ∧ L = []) ∨
  ∃ (b off cap : Nat), v = .slice (some ⟨b, off, none⟩) L.length cap ∧ L ≠ [] ∧ L.length ≤ maxLen ∧ b < w.heap.size ∧
    (∀ i (h : i < L.length), w.cell? ⟨b, off + i, none⟩ = some (.string L[i])) ∧ (∀ s ∈ L, s.size ≤ maxLen) ∧ lo ≤ b
theorem StrsIn.at {lo : Nat} {w : World} {v : Value} {L : List ByteArray} (h : StrsIn lo w v L) : StrsAt w v L := by
  rcases h with h | ⟨b, off, cap, h1, h2, h3, h4, h5, h6, _⟩
  · exact Or.inl h
  · exact Or.inr ⟨b, off, cap, h1, h2, h3, h4, h5, h6⟩
theorem StrsIn.mono {lo lo' : Nat} {w : World} {v : Value} {L : List ByteArray} (h : StrsIn lo w v L) (hl : lo' ≤ lo) : StrsIn lo' w v L := by
  rcases h with h | ⟨b, off, cap, h1, h2, h3, h4, h5, h6, h7⟩
  · exact Or.inl h
  · exact Or.inr ⟨b, off, cap, h1, h2, h3, h4, h5, h6, Nat.le_trans hl h7⟩
theorem StrsIn.below {lo : Nat} {w w' : World} {v : Value} {L : List ByteArray} (h : StrsIn lo w v L) (hb : Below w.heap.size w w') : StrsIn lo w' v L := by
  rcases h with h | ⟨b, off, cap, h1, h2, h3, h4, h5, h6, h7⟩
  · exact Or.inl h
  · exact Or.inr ⟨b, off, cap, h1, h2, h3, Nat.lt_of_lt_of_le h4 hb.size, fun i hi => by rw [hb.cell (p := ⟨b, off + i, none⟩) h4]; exact h5 i hi, h6, h7⟩
theorem cell_setCell_ne (w : World) (p q : Addr) (u : Value) (h : q.block ≠ p.block) : (w.setCell p u).cell? q = w.cell? q :=
  World.cell?_of_block (w := w) (Below.heap_setCell w p u q.block h)
theorem StrsIn.setCell {lo : Nat} {w : World} {v : Value} {L : List ByteArray} (h : StrsIn lo w v L) {p : Addr} (hp : p.block < lo) (u : Value) : StrsIn lo (w.setCell p u) v L := by
  rcases h with h | ⟨b, off, cap, h1, h2, h3, h4, h5, h6, h7⟩
  · exact Or.inl h
  · exact Or.inr ⟨b, off, cap, h1, h2, h3, by simpa [World.setCell] using h4, fun i hi => by rw [cell_setCell_ne _ _ _ _ (by show b ≠ p.block; omega)]; exact h5 i hi, h6, h7⟩
theorem StrsIn.form {lo : Nat} {w : World} {v : Value} {L : List ByteArray} (h : StrsIn lo w v L) : ∃ a n cap, v = .slice a n cap := by
  rcases h with ⟨a, cap, h, _⟩ | ⟨b, off, cap, h, _⟩
  · exact ⟨a, _, cap, h⟩
  · exact ⟨_, _, cap, h⟩
theorem StrsAt.form {w : World} {v : Value} {L : List ByteArray} (h : StrsAt w v L) : ∃ a n cap, v = .slice a n cap := by
  rcases h with ⟨a, cap, h, _⟩ | ⟨b, off, cap, h, _⟩
  · exact ⟨a, _, cap, h⟩
  · exact ⟨_, _, cap, h⟩
theorem Filled.done {wr : World} {B : Nat} {L : List ByteArray} {k : Nat} (h : Filled wr B L k) (hk : L.length ≤ k) (hne : L ≠ []) (hm : L.length ≤ maxLen) (hs : ∀ s ∈ L, s.size ≤ maxLen) : StrsIn B wr (.slice (some ⟨B, 0, none⟩) L.length L.length) L := by
  refine Or.inr ⟨B, 0, L.length, rfl, hne, hm, World.rowIs.lt h, fun i hi => ?_, hs, Nat.le_refl _⟩
  rw [Nat.zero_add, World.rowIs.cell h hi]
  unfold fillF
  rw [if_pos (by omega), List.getD_eq_getElem?_getD, List.getElem?_eq_getElem hi]; rfl

set_option maxHeartbeats 400000 in
theorem toStrs_any (v : Value) (L : List ByteArray) (w : World) (hv : StrsAt w v L) (hn : L.length ≤ 1048576) :
    Calls Try.prog 14 #[v] w fun e w' => ∃ v', e = .returned v' ∧ Below w.heap.size w w' ∧ StrsIn w.heap.size w' v' L := by
  rcases hv with ⟨a, cap, rfl, rfl⟩ | ⟨b, off, cap, rfl, hne, hm, hbw, hc, hsz⟩
  · have hmk : ∀ u : World, (Instr.makeSlice 22 (.int .i64 0) (.int .i64 0)).run Try.prog u = .ok (.slice (some ⟨u.heap.size, 0, none⟩) 0 0) (u.alloc (.cells (madeCells #[.string ⟨#[]⟩] 0) 9)) :=
      fun u => run_make_row' 22 9 (.string ⟨#[]⟩) 16 Try.underlying22 Try.info9 rfl .i64 .i64 0 (by omega) (by omega) u
    go_enter Try.func14, Try.ntmps14
    go_wp2
    go_loop [4] (fun i => i = .int .i64 0) (fun _ => 0)
    case atStart => rfl
    case round =>
      subst hrel
      go_wp2
      go_ret
      exact ⟨_, rfl, (Below.refl _ _).alloc (Nat.le_refl _) _, Or.inl ⟨_, _, rfl, rfl⟩⟩
  · have HM : Hid (L.length ≤ maxLen) := hm
    unfold maxLen at hm
    have hmk : ∀ u : World, (Instr.makeSlice 22 (.int .i64 (L.length : Int)) (.int .i64 (L.length : Int))).run Try.prog u = .ok (.slice (some ⟨u.heap.size, 0, none⟩) L.length L.length) (u.alloc (.cells (madeCells #[.string ⟨#[]⟩] L.length) 9)) :=
      fun u => run_make_row' 22 9 (.string ⟨#[]⟩) 16 Try.underlying22 Try.info9 rfl .i64 .i64 L.length (by omega) (by omega) u
    go_enter Try.func14, Try.ntmps14
    go_wp2
    clear hmk
    go_loopw [4] (fun i wr => ∃ k : Nat, i = .int .i64 k ∧ k ≤ L.length ∧ Below w.heap.size w wr ∧ Filled wr w.heap.size L k) (fun i _ => L.length - (intOf i).toNat)
    case atStart => exact ⟨0, rfl, by omega, (Below.refl _ _).alloc (Nat.le_refl _) _, World.rowIs_made w (.string ⟨#[]⟩) L.length 9⟩
    case round =>
      obtain ⟨k, rfl, hk, hb, hf⟩ := hrel
      by_cases hlt : k < L.length
      · have hck : wr.cell? ⟨b, off + k, none⟩ = some (.string L[k]) := by rw [hb.cell (p := ⟨b, off + k, none⟩) hbw]; exact hc k hlt
        obtain ⟨old, hold⟩ := hf.old hlt
        have hfz := hf.frozen k
        go_wp2
        go_roundw
        case rel => exact ⟨k + 1, by go_num, by omega, hb.setCell (Nat.le_refl _) _, hf.step hlt⟩
        case measure => simp [intOf]; omega
      · go_wp2
        go_ret
        exact ⟨_, rfl, hb, hf.done (by omega) hne HM.out hsz⟩
end Go.Proofs.Ytgnodlkdjpnmoaa

