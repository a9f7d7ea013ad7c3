import Derived.Test.YtobijdenhbpdfaaDoorT4
namespace Go.Proofs.YtobijdenhbpdfaaDoor
open Go.RowKit Go.Deep

structure RuCells (w : World) (b o : Nat) (r : Ru) (vv : Value) : Prop where
  c0 : w.cell? ⟨b, o, none⟩ = some vv
  c1 : w.cell? ⟨b, o + 1, none⟩ = some (.string r.kd)
  c2 : w.cell? ⟨b, o + 2, none⟩ = some (.string r.tm)
  c3 : w.cell? ⟨b, o + 3, none⟩ = some (.string r.pf)
theorem RuCells.below {w w' : World} {b o : Nat} {r : Ru} {vv : Value} (h : RuCells w b o r vv) (hb : Below w.heap.size w w') (hlt : b < w.heap.size) : RuCells w' b o r vv := by
  have e : ∀ o, w'.cell? ⟨b, o, none⟩ = w.cell? ⟨b, o, none⟩ := fun o => hb.cell (p := ⟨b, o, none⟩) hlt
  exact ⟨by rw [e]; exact h.c0, by rw [e]; exact h.c1, by rw [e]; exact h.c2, by rw [e]; exact h.c3⟩
/-- A []GateRule THAT HOLDS Rs; its cells lie from block lo on. -/
def RusAt (lo : Nat) (w : World) (v : Value) (Rs : List Ru) : Prop :=
  (∃ (a : Option Addr) (cap : Nat), v = .slice a 0 cap ∧ Rs = []) ∨
  ∃ (b off cap : Nat), v = .slice (some ⟨b, off, none⟩) Rs.length cap ∧ Rs ≠ [] ∧ Rs.length ≤ maxLen ∧ b < w.heap.size ∧ lo ≤ b ∧ Rs.length ≤ cap ∧
    ∀ i (h : i < Rs.length), RuSize Rs[i] ∧ ∃ vv, RuCells w b (off + i * 4) Rs[i] vv ∧ IntsIn lo w vv Rs[i].vb
theorem RusAt.below {lo : Nat} {w w' : World} {v : Value} {Rs : List Ru} (h : RusAt lo w v Rs) (hb : Below w.heap.size w w') : RusAt lo w' v Rs := by
  rcases h with h | ⟨b, off, cap, h1, h2, h3, h4, h5, h6, h7⟩
  · exact Or.inl h
  · refine Or.inr ⟨b, off, cap, h1, h2, h3, Nat.lt_of_lt_of_le h4 hb.size, h5, h6, fun i hi => ?_⟩
    obtain ⟨hs, vv, hc, hv⟩ := h7 i hi
    exact ⟨hs, vv, hc.below hb h4, hv.below hb⟩
theorem RusAt.mono {lo lo' : Nat} {w : World} {v : Value} {Rs : List Ru} (h : RusAt lo w v Rs) (hl : lo' ≤ lo) : RusAt lo' w v Rs := by
  rcases h with h | ⟨b, off, cap, h1, h2, h3, h4, h5, h6, h7⟩
  · exact Or.inl h
  · refine Or.inr ⟨b, off, cap, h1, h2, h3, h4, Nat.le_trans hl h5, h6, fun i hi => ?_⟩
    obtain ⟨hs, vv, hc, hv⟩ := h7 i hi
    exact ⟨hs, vv, hc, hv.mono hl⟩
theorem RusAt.form {lo : Nat} {w : World} {v : Value} {Rs : List Ru} (h : RusAt lo w v Rs) : ∃ a cap, v = .slice a Rs.length cap := by
  rcases h with ⟨a, cap, h, rfl⟩ | ⟨b, off, cap, h, _⟩
  · exact ⟨a, cap, h⟩
  · exact ⟨_, cap, h⟩
theorem RusAt.max {lo : Nat} {w : World} {v : Value} {Rs : List Ru} (h : RusAt lo w v Rs) : Rs.length ≤ maxLen := by
  rcases h with ⟨a, cap, h, rfl⟩ | ⟨b, off, cap, h, _, h3, _⟩
  · exact Nat.zero_le _
  · exact h3
theorem RusAt.full {lo : Nat} {w : World} {v : Value} {Rs : List Ru} (h : RusAt lo w v Rs) (hne : Rs ≠ []) : ∃ (b off cap : Nat), v = .slice (some ⟨b, off, none⟩) Rs.length cap ∧ Rs.length ≤ maxLen ∧ b < w.heap.size ∧ Rs.length ≤ cap ∧
    ∀ i (h : i < Rs.length), RuSize Rs[i] ∧ ∃ vv, RuCells w b (off + i * 4) Rs[i] vv ∧ IntsIn lo w vv Rs[i].vb := by
  rcases h with ⟨_, _, _, h⟩ | ⟨b, off, cap, h1, _, h3, h4, _, h6, h7⟩
  · exact absurd h hne
  · exact ⟨b, off, cap, h1, h3, h4, h6, h7⟩
theorem RusAt.full' {lo : Nat} {w : World} {a : Option Addr} {n cap : Nat} {Rs : List Ru} (h : RusAt lo w (.slice a n cap) Rs) (hL : 0 < Rs.length) :
    ∃ b off, a = some ⟨b, off, none⟩ ∧ b < w.heap.size ∧ ∀ i (h : i < Rs.length), RuSize Rs[i] ∧ ∃ vv, RuCells w b (off + i * 4) Rs[i] vv ∧ IntsIn lo w vv Rs[i].vb := by
  rcases h with ⟨a', cap', h, rfl⟩ | ⟨b', off', cap', h1, h2, h3, h4, h5, h6, h7⟩
  · simp at hL
  · injection h1 with e1 e2 e3
    exact ⟨b', off', e1, h4, h7⟩
def RusSmall (Rs : List Ru) : Prop := Rs.length ≤ 1048576 ∧ ∀ i (h : i < Rs.length), Rs[i].vb.length ≤ 1048576
def SzRus (Rs : List Ru) (left r : Int) : Prop := -1 ≤ r ∧ r ≤ left ∧ (0 ≤ r → RusSmall Rs)

theorem Tryd.info27 : (Tryd.prog.info? 27).map (fun i => (i.zero, i.size, i.bytes)) = some (some (.agg #[.slice none 0 0, .string ⟨#[]⟩, .string ⟨#[]⟩, .string ⟨#[]⟩]), 4, 72) := by kernel_rfl
def RusFill (wr : World) (B : Nat) (Rs : List Ru) (k : Nat) : Prop :=
  ∃ f, wr.rowIs B 27 (Rs.length * 4) f ∧ ∀ i (h : i < Rs.length), i < k → RuSize Rs[i] ∧ ∃ vv, f (i * 4) = vv ∧ f (i * 4 + 1) = .string Rs[i].kd ∧ f (i * 4 + 2) = .string Rs[i].tm ∧ f (i * 4 + 3) = .string Rs[i].pf ∧ IntsIn (B + 1) wr vv Rs[i].vb
theorem RusFill.below {wr w1 : World} {B : Nat} {Rs : List Ru} {k : Nat} (h : RusFill wr B Rs k) (hb : Below wr.heap.size wr w1) : RusFill w1 B Rs k := by
  obtain ⟨f, hr, hall⟩ := h
  refine ⟨f, hr.of_block (hb.block B hr.lt), fun i hi hik => ?_⟩
  obtain ⟨hz, vv, h0, h1, h2, h3, hv⟩ := hall i hi hik
  exact ⟨hz, vv, h0, h1, h2, h3, hv.below hb⟩
theorem RusFill.free {wr : World} {B : Nat} {Rs : List Ru} {k : Nat} (h : RusFill wr B Rs k) (i : Nat) : wr.frozen? ⟨B, i, none⟩ = false := by
  obtain ⟨f, hr, _⟩ := h
  exact hr.frozen i
theorem RusFill.there {wr : World} {B : Nat} {Rs : List Ru} {k : Nat} (h : RusFill wr B Rs k) (i : Nat) (hi : i < Rs.length * 4) : ∃ v, wr.cell? ⟨B, i, none⟩ = some v := by
  obtain ⟨f, hr, _⟩ := h
  exact ⟨_, hr.cell hi⟩
theorem RusFill.step {w1 : World} {B : Nat} {Rs : List Ru} {k : Nat} {vv : Value} (h : RusFill w1 B Rs k) (hk : k < Rs.length) (hz : RuSize Rs[k]) (hv : IntsIn (B + 1) w1 vv Rs[k].vb) :
    RusFill ((((w1.setCell ⟨B, k * 4, none⟩ vv).setCell ⟨B, k * 4 + 1, none⟩ (.string Rs[k].kd)).setCell ⟨B, k * 4 + 2, none⟩ (.string Rs[k].tm)).setCell ⟨B, k * 4 + 3, none⟩ (.string Rs[k].pf)) B Rs (k + 1) := by
  obtain ⟨f, hr, hall⟩ := h
  refine ⟨_, ((((hr.set _ _).set _ _).set _ _).set _ _), fun i hi hik => ?_⟩
  by_cases e : i = k
  · subst e
    refine ⟨hz, vv, by simp, by simp, by simp, by simp, ?_⟩
    repeat (refine IntsIn.setCell ?_ (by simp only []; omega) _)
    exact hv
  · obtain ⟨hz', vv', h0, h1, h2, h3, hv'⟩ := hall i hi (by omega)
    refine ⟨hz', vv', ?_, ?_, ?_, ?_, ?_⟩
    · rw [if_neg (by omega), if_neg (by omega), if_neg (by omega), if_neg (by omega)]; exact h0
    · rw [if_neg (by omega), if_neg (by omega), if_neg (by omega), if_neg (by omega)]; exact h1
    · rw [if_neg (by omega), if_neg (by omega), if_neg (by omega), if_neg (by omega)]; exact h2
    · rw [if_neg (by omega), if_neg (by omega), if_neg (by omega), if_neg (by omega)]; exact h3
    · repeat (refine IntsIn.setCell ?_ (by simp only []; omega) _)
      exact hv'
theorem RusFill.done {wr : World} {B : Nat} {Rs : List Ru} {k : Nat} (h : RusFill wr B Rs k) (hk : Rs.length ≤ k) (hne : Rs ≠ []) (hm : Rs.length ≤ maxLen) : RusAt B wr (.slice (some ⟨B, 0, none⟩) Rs.length Rs.length) Rs := by
  obtain ⟨f, hr, hall⟩ := h
  refine Or.inr ⟨B, 0, Rs.length, rfl, hne, hm, hr.lt, Nat.le_refl _, Nat.le_refl _, fun i hi => ?_⟩
  obtain ⟨hz, vv, h0, h1, h2, h3, hv⟩ := hall i hi (by omega)
  rw [Nat.zero_add]
  exact ⟨hz, vv, ⟨by rw [hr.cell (by omega), h0], by rw [hr.cell (by omega), h1], by rw [hr.cell (by omega), h2], by rw [hr.cell (by omega), h3]⟩, hv.mono (by omega)⟩
theorem RusFill.new (w : World) (Rs : List Ru) (z : Array Value) : RusFill (w.alloc (.cells (madeCells z (Rs.length * 4)) 27)) w.heap.size Rs 0 := by
  refine ⟨fun i => (madeCells z (Rs.length * 4)).getD i default, ?_, fun i _ h => by omega⟩
  have := World.rowIs_alloc w (madeCells z (Rs.length * 4)) 27 (fun i => (madeCells z (Rs.length * 4)).getD i default) (fun i hi => by simp [Array.getD, hi])
  rwa [size_madeCells] at this

end Go.Proofs.YtobijdenhbpdfaaDoor

