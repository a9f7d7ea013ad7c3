import Derived.Test.YtfohnageehneoaaGreatUNA
import Derived.Test.YtfohnageehneoaaGreatUK25
import Derived.Test.YtfohnageehneoaaGreatUP1
import Derived.Test.YtfohnageehneoaaGreatUA1
namespace Go.Proofs.YtfohnageehneoaaGreat
open Go.RowKit Go.Deep

theorem Tryz.info166 : (Tryz.prog.info? 166).map (fun i => (i.zero, i.size, i.bytes)) = some (some (.agg #[.string ⟨#[]⟩, .string ⟨#[]⟩, .string ⟨#[]⟩, .string ⟨#[]⟩, .string ⟨#[]⟩, .string ⟨#[]⟩]), 6, 96) := by kernel_rfl

theorem MdsAt.setCell {lo : Nat} {w : World} {v : Value} {Ms : List Md} (h : MdsAt lo w v Ms) {p : Addr} (hp : p.block < lo) (u : Value) : MdsAt lo (w.setCell p u) v Ms := by
  rcases h with h | ⟨b, off, cap, h1, h2, h3, h4, h5, h6, h7⟩
  · exact Or.inl h
  · refine Or.inr ⟨b, off, cap, h1, h2, h3, by simpa [World.setCell] using h4, h5, h6, fun i hi => ?_⟩
    obtain ⟨hs, hc⟩ := h7 i hi
    have e : ∀ o, (w.setCell p u).cell? ⟨b, o, none⟩ = w.cell? ⟨b, o, none⟩ := fun o => cell_setCell_ne _ _ _ _ (by show b ≠ p.block; omega)
    exact ⟨hs, by rw [e]; exact hc.c0, by rw [e]; exact hc.c1, by rw [e]; exact hc.c2, by rw [e]; exact hc.c3, by rw [e]; exact hc.c4, by rw [e]; exact hc.c5⟩

def MdsFill (wr : World) (B : Nat) (Ms : List Md) (k : Nat) : Prop :=
  ∃ f, wr.rowIs B 166 (Ms.length * 6) f ∧ ∀ i (h : i < Ms.length), i < k → MdSize Ms[i] ∧ f (i * 6) = .string Ms[i].kind ∧ f (i * 6 + 1) = .string Ms[i].field ∧ f (i * 6 + 2) = .string Ms[i].wh ∧ f (i * 6 + 3) = .string Ms[i].is ∧ f (i * 6 + 4) = .string Ms[i].put ∧ f (i * 6 + 5) = .string Ms[i].fr
theorem MdsFill.below {wr w1 : World} {B : Nat} {Ms : List Md} {k : Nat} (h : MdsFill wr B Ms k) (hb : Below wr.heap.size wr w1) : MdsFill w1 B Ms k := by
  obtain ⟨f, hr, hall⟩ := h
  exact ⟨f, hr.of_block (hb.block B hr.lt), hall⟩
theorem MdsFill.free {wr : World} {B : Nat} {Ms : List Md} {k : Nat} (h : MdsFill wr B Ms k) (i : Nat) : wr.frozen? ⟨B, i, none⟩ = false := by
  obtain ⟨f, hr, _⟩ := h
  exact hr.frozen i
theorem MdsFill.there {wr : World} {B : Nat} {Ms : List Md} {k : Nat} (h : MdsFill wr B Ms k) (i : Nat) (hi : i < Ms.length * 6) : ∃ v, wr.cell? ⟨B, i, none⟩ = some v := by
  obtain ⟨f, hr, _⟩ := h
  exact ⟨_, hr.cell hi⟩
theorem MdsFill.lt {wr : World} {B : Nat} {Ms : List Md} {k : Nat} (h : MdsFill wr B Ms k) : B < wr.heap.size := by
  obtain ⟨f, hr, _⟩ := h
  exact hr.lt
theorem MdsFill.step {w1 : World} {B : Nat} {Ms : List Md} {k : Nat} (h : MdsFill w1 B Ms k) (hk : k < Ms.length) (hz : MdSize Ms[k]) :
    MdsFill ((((((w1.setCell ⟨B, k * 6, none⟩ (.string Ms[k].kind)).setCell ⟨B, k * 6 + 1, none⟩ (.string Ms[k].field)).setCell ⟨B, k * 6 + 2, none⟩ (.string Ms[k].wh)).setCell ⟨B, k * 6 + 3, none⟩ (.string Ms[k].is)).setCell ⟨B, k * 6 + 4, none⟩ (.string Ms[k].put)).setCell ⟨B, k * 6 + 5, none⟩ (.string Ms[k].fr)) B Ms (k + 1) := by
  obtain ⟨f, hr, hall⟩ := h
  refine ⟨_, ((((((hr.set _ _).set _ _).set _ _).set _ _).set _ _).set _ _), fun i hi hik => ?_⟩
  by_cases e : i = k
  · subst e
    exact ⟨hz, by simp, by simp, by simp, by simp, by simp, by simp⟩
  · obtain ⟨hz', h0, h1, h2, h3, h4, h5⟩ := hall i hi (by omega)
    refine ⟨hz', ?_, ?_, ?_, ?_, ?_, ?_⟩
    · rw [if_neg (by omega), if_neg (by omega), if_neg (by omega), if_neg (by omega), if_neg (by omega), if_neg (by omega)]; exact h0
    · rw [if_neg (by omega), if_neg (by omega), if_neg (by omega), if_neg (by omega), if_neg (by omega), if_neg (by omega)]; exact h1
    · rw [if_neg (by omega), if_neg (by omega), if_neg (by omega), if_neg (by omega), if_neg (by omega), if_neg (by omega)]; exact h2
    · rw [if_neg (by omega), if_neg (by omega), if_neg (by omega), if_neg (by omega), if_neg (by omega), if_neg (by omega)]; exact h3
    · rw [if_neg (by omega), if_neg (by omega), if_neg (by omega), if_neg (by omega), if_neg (by omega), if_neg (by omega)]; exact h4
    · rw [if_neg (by omega), if_neg (by omega), if_neg (by omega), if_neg (by omega), if_neg (by omega), if_neg (by omega)]; exact h5
/-- A []GateMend OF n MENDS THAT MAY BE WRITTEN. -/
def MdsW (lo hi : Nat) (w : World) (v : Value) (n : Nat) : Prop :=
  (∃ (a : Option Addr) (cap : Nat), v = .slice a 0 cap ∧ n = 0) ∨
  ∃ (b off cap : Nat), v = .slice (some ⟨b, off, none⟩) n cap ∧ 0 < n ∧ n ≤ maxLen ∧ lo ≤ b ∧ b < hi ∧ b < w.heap.size ∧ (∀ i, i < n * 6 → (w.cell? ⟨b, off + i, none⟩).isSome = true) ∧ ∀ i, w.frozen? ⟨b, i, none⟩ = false
theorem MdsFill.done {wr : World} {B : Nat} {Ms : List Md} {k : Nat} (h : MdsFill wr B Ms k) (hk : Ms.length ≤ k) (hne : Ms ≠ []) (hm : Ms.length ≤ maxLen) : MdsAt B wr (.slice (some ⟨B, 0, none⟩) Ms.length Ms.length) Ms ∧ MdsW B wr.heap.size wr (.slice (some ⟨B, 0, none⟩) Ms.length Ms.length) Ms.length := by
  refine ⟨?_, Or.inr ⟨B, 0, Ms.length, rfl, List.length_pos_iff.2 hne, hm, Nat.le_refl _, h.lt, h.lt, fun i hi => ?_, h.free⟩⟩
  · obtain ⟨f, hr, hall⟩ := h
    refine Or.inr ⟨B, 0, Ms.length, rfl, hne, hm, hr.lt, Nat.le_refl _, Nat.le_refl _, fun i hi => ?_⟩
    obtain ⟨hz, h0, h1, h2, h3, h4, h5⟩ := hall i hi (by omega)
    rw [Nat.zero_add]
    exact ⟨hz, by rw [hr.cell (by omega), h0], by rw [hr.cell (by omega), h1], by rw [hr.cell (by omega), h2], by rw [hr.cell (by omega), h3], by rw [hr.cell (by omega), h4], by rw [hr.cell (by omega), h5]⟩
  · obtain ⟨v, hv⟩ := h.there i hi; rw [Nat.zero_add, hv]; rfl
theorem MdsFill.new (w : World) (Ms : List Md) (z : Array Value) : MdsFill (w.alloc (.cells (madeCells z (Ms.length * 6)) 166)) w.heap.size Ms 0 := by
  refine ⟨fun i => (madeCells z (Ms.length * 6)).getD i default, ?_, fun i _ h => by omega⟩
  have := World.rowIs_alloc w (madeCells z (Ms.length * 6)) 166 (fun i => (madeCells z (Ms.length * 6)).getD i default) (fun i hi => by simp [Array.getD, hi])
  rwa [size_madeCells] at this

set_option maxHeartbeats 1000000 in
theorem toMdsO_any (lo : Nat) (v : Value) (Ms : List Md) (w : World) (hv : MdsAt lo w v Ms) (hn : Ms.length ≤ 1048576) :
    Calls Tryz.prog 42 #[v] w fun e w' => ∃ v', e = .returned v' ∧ Below w.heap.size w w' ∧ MdsAt w.heap.size w' v' Ms ∧ MdsW w.heap.size w'.heap.size w' v' Ms.length := by
  obtain ⟨i0, hi, hz0, hz1, hz2⟩ := info_parts Tryz.info166
  by_cases hL : Ms = []
  · subst hL
    obtain ⟨a, cap, rfl⟩ := hv.form
    clear hv
    have hmk : ∀ u : World, (Instr.makeSlice 44 (.int .i64 0) (.int .i64 0)).run Tryz.prog u = .ok (.slice (some ⟨u.heap.size, 0, none⟩) 0 0) (u.alloc (.cells (madeCells (Value.cells (.agg #[.string ⟨#[]⟩, .string ⟨#[]⟩, .string ⟨#[]⟩, .string ⟨#[]⟩, .string ⟨#[]⟩, .string ⟨#[]⟩])) 0) 166)) := fun u => by
      have h := run_make (P := Tryz.prog) u 44 166 i0 _ Tryz.underlying44 hi hz0 .i64 .i64 0 0 (by omega) (by omega) (by omega) (by omega)
      simpa [hz1] using h
    go_enter Tryz.func42, Tryz.ntmps42
    go_wp2
    go_loop [4] (fun i => i = .int .i64 0) (fun _ => 0)
    case atStart => rfl
    case round =>
      subst hrel
      go_wp2
      go_ret
      exact ⟨_, rfl, (Below.refl _ _).alloc (Nat.le_refl _) _, Or.inl ⟨_, _, rfl, rfl⟩, Or.inl ⟨_, _, rfl, rfl⟩⟩
  · obtain ⟨b, off, cap, rfl, hm, hbw, _, hc⟩ := hv.full hL
    clear hv
    have HM : Hid (Ms.length ≤ maxLen) := hm
    unfold maxLen at hm
    have hmk : ∀ u : World, (Instr.makeSlice 44 (.int .i64 (Ms.length : Int)) (.int .i64 (Ms.length : Int))).run Tryz.prog u = .ok (.slice (some ⟨u.heap.size, 0, none⟩) Ms.length Ms.length) (u.alloc (.cells (madeCells (Value.cells (.agg #[.string ⟨#[]⟩, .string ⟨#[]⟩, .string ⟨#[]⟩, .string ⟨#[]⟩, .string ⟨#[]⟩, .string ⟨#[]⟩])) (Ms.length * 6)) 166)) := fun u => by
      have h := run_make (P := Tryz.prog) u 44 166 i0 _ Tryz.underlying44 hi hz0 .i64 .i64 Ms.length Ms.length (by omega) (by omega) (by rw [hz2]; omega) (by omega)
      rw [hz1] at h
      simpa using h
    clear hi hz0 hz1 hz2
    go_enter Tryz.func42, Tryz.ntmps42
    go_wp2
    clear hmk
    go_loopw [4] (fun i wr => ∃ k : Nat, i = .int .i64 k ∧ k ≤ Ms.length ∧ Below w.heap.size w wr ∧ MdsFill wr w.heap.size Ms k) (fun i _ => Ms.length - (intOf i).toNat)
    case atStart => exact ⟨0, rfl, by omega, (Below.refl _ _).alloc (Nat.le_refl _) _, MdsFill.new w Ms _⟩
    case round =>
      obtain ⟨k, rfl, hk, hb, hf⟩ := hrel
      by_cases hlt : k < Ms.length
      · obtain ⟨hsz, hcell⟩ := hc k hlt
        obtain ⟨c0, c1, c2, c3, c4, c5⟩ := hcell.below hb hbw
        clear hcell
        go_wp2_with fail
        refine (toMend_any _ _ _ _ _ _ _).mono ?_
        rintro e w1 ⟨rfl, hb1⟩
        have hf1 := hf.below hb1
        have HST := hide (hf1.step hlt hsz)
        have hB : Hid (Below w.heap.size w w1) := hb.trans (hb1.mono hb.size)
        have hfr := hf1.free
        obtain ⟨o0, ho0⟩ := hf1.there (k * 6) (by omega)
        obtain ⟨o1, ho1⟩ := hf1.there (k * 6 + 1) (by omega)
        obtain ⟨o2, ho2⟩ := hf1.there (k * 6 + 2) (by omega)
        obtain ⟨o3, ho3⟩ := hf1.there (k * 6 + 3) (by omega)
        obtain ⟨o4, ho4⟩ := hf1.there (k * 6 + 4) (by omega)
        obtain ⟨o5, ho5⟩ := hf1.there (k * 6 + 5) (by omega)
        clear hf hf1 hb1 hb c0 c1 c2 c3 c4 c5
        go_wp2
        go_roundw
        case rel =>
          exact ⟨k + 1, by go_num, by omega, ((((((hB.out.setCell (Nat.le_refl _) _).setCell (Nat.le_refl _) _).setCell (Nat.le_refl _) _).setCell (Nat.le_refl _) _).setCell (Nat.le_refl _) _).setCell (Nat.le_refl _) _), HST.out⟩
        case measure => simp [intOf]; omega
      · go_wp2
        go_ret
        have hd := hf.done (by omega) hL HM.out
        exact ⟨_, rfl, hb, hd.1, hd.2⟩

end Go.Proofs.YtfohnageehneoaaGreat

