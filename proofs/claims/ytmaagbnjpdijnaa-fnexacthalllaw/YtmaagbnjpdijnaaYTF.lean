import Derived.Test.YtmaagbnjpdijnaaYTA
import Derived.Test.YtmaagbnjpdijnaaYTD
import Derived.ChangeSlices
import Derived.Test.YtmaagbnjpdijnaaYNN
namespace Go.Proofs.Ytmaagbnjpdijnaa
open Go.RowKit Go.Deep

structure RuCells (w : World) (b o : Nat) (r : Ru) (vv : Value) : Prop where
  c0 : w.cell? ⟨b, o, none⟩ = some vv
  c1 : w.cell? ⟨b, o + 1, none⟩ = some (.string r.kd)
  c2 : w.cell? ⟨b, o + 2, none⟩ = some (.string r.tm)
  c3 : w.cell? ⟨b, o + 3, none⟩ = some (.string r.pf)
theorem RuCells.below {w w' : World} {b o : Nat} {r : Ru} {vv : Value} (h : RuCells w b o r vv) (hb : Below w.heap.size w w') (hlt : b < w.heap.size) : RuCells w' b o r vv := by
  have e : ∀ o, w'.cell? ⟨b, o, none⟩ = w.cell? ⟨b, o, none⟩ := fun o => hb.cell (p := ⟨b, o, none⟩) hlt
  exact ⟨by rw [e]; exact h.c0, by rw [e]; exact h.c1, by rw [e]; exact h.c2, by rw [e]; exact h.c3⟩
/-- A []GateRule THAT HOLDS Rs; its cells lie from block lo on. -/
def RusAt (lo : Nat) (w : World) (v : Value) (Rs : List Ru) : Prop :=
  (∃ (a : Option Addr) (cap : Nat), v = .slice a 0 cap ∧ Rs = []) ∨
  ∃ (b off cap : Nat), v = .slice (some ⟨b, off, none⟩) Rs.length cap ∧ Rs ≠ [] ∧ Rs.length ≤ maxLen ∧ b < w.heap.size ∧ lo ≤ b ∧ Rs.length ≤ cap ∧
    ∀ i (h : i < Rs.length), RuSize Rs[i] ∧ ∃ vv, RuCells w b (off + i * 4) Rs[i] vv ∧ IntsIn lo w vv Rs[i].vb
theorem RusAt.below {lo : Nat} {w w' : World} {v : Value} {Rs : List Ru} (h : RusAt lo w v Rs) (hb : Below w.heap.size w w') : RusAt lo w' v Rs := by
  rcases h with h | ⟨b, off, cap, h1, h2, h3, h4, h5, h6, h7⟩
  · exact Or.inl h
  · refine Or.inr ⟨b, off, cap, h1, h2, h3, Nat.lt_of_lt_of_le h4 hb.size, h5, h6, fun i hi => ?_⟩
    obtain ⟨hs, vv, hc, hv⟩ := h7 i hi
    exact ⟨hs, vv, hc.below hb h4, hv.below hb⟩
theorem RusAt.mono {lo lo' : Nat} {w : World} {v : Value} {Rs : List Ru} (h : RusAt lo w v Rs) (hl : lo' ≤ lo) : RusAt lo' w v Rs := by
  rcases h with h | ⟨b, off, cap, h1, h2, h3, h4, h5, h6, h7⟩
  · exact Or.inl h
  · refine Or.inr ⟨b, off, cap, h1, h2, h3, h4, Nat.le_trans hl h5, h6, fun i hi => ?_⟩
    obtain ⟨hs, vv, hc, hv⟩ := h7 i hi
    exact ⟨hs, vv, hc, hv.mono hl⟩
theorem RusAt.form {lo : Nat} {w : World} {v : Value} {Rs : List Ru} (h : RusAt lo w v Rs) : ∃ a cap, v = .slice a Rs.length cap := by
  rcases h with ⟨a, cap, h, rfl⟩ | ⟨b, off, cap, h, _⟩
  · exact ⟨a, cap, h⟩
  · exact ⟨_, cap, h⟩
theorem RusAt.full {lo : Nat} {w : World} {v : Value} {Rs : List Ru} (h : RusAt lo w v Rs) (hne : Rs ≠ []) : ∃ (b off cap : Nat), v = .slice (some ⟨b, off, none⟩) Rs.length cap ∧ Rs.length ≤ maxLen ∧ b < w.heap.size ∧ Rs.length ≤ cap ∧
    ∀ i (h : i < Rs.length), RuSize Rs[i] ∧ ∃ vv, RuCells w b (off + i * 4) Rs[i] vv ∧ IntsIn lo w vv Rs[i].vb := by
  rcases h with ⟨_, _, _, h⟩ | ⟨b, off, cap, h1, _, h3, h4, _, h6, h7⟩
  · exact absurd h hne
  · exact ⟨b, off, cap, h1, h3, h4, h6, h7⟩
theorem RusAt.full' {lo : Nat} {w : World} {a : Option Addr} {n cap : Nat} {Rs : List Ru} (h : RusAt lo w (.slice a n cap) Rs) (hL : 0 < Rs.length) :
    ∃ b off, a = some ⟨b, off, none⟩ ∧ b < w.heap.size ∧ ∀ i (h : i < Rs.length), RuSize Rs[i] ∧ ∃ vv, RuCells w b (off + i * 4) Rs[i] vv ∧ IntsIn lo w vv Rs[i].vb := by
  rcases h with ⟨a', cap', h, rfl⟩ | ⟨b', off', cap', h1, h2, h3, h4, h5, h6, h7⟩
  · simp at hL
  · injection h1 with e1 e2 e3
    exact ⟨b', off', e1, h4, h7⟩
def RusFill (wr : World) (B : Nat) (Rs : List Ru) (k : Nat) : Prop :=
  ∃ f, wr.rowIs B 89 (Rs.length * 4) f ∧ ∀ i (h : i < Rs.length), i < k → RuSize Rs[i] ∧ ∃ vv, f (i * 4) = vv ∧ f (i * 4 + 1) = .string Rs[i].kd ∧ f (i * 4 + 2) = .string Rs[i].tm ∧ f (i * 4 + 3) = .string Rs[i].pf ∧ IntsIn (B + 1) wr vv Rs[i].vb
theorem RusFill.below {wr w1 : World} {B : Nat} {Rs : List Ru} {k : Nat} (h : RusFill wr B Rs k) (hb : Below wr.heap.size wr w1) : RusFill w1 B Rs k := by
  obtain ⟨f, hr, hall⟩ := h
  refine ⟨f, hr.of_block (hb.block B hr.lt), fun i hi hik => ?_⟩
  obtain ⟨hz, vv, h0, h1, h2, h3, hv⟩ := hall i hi hik
  exact ⟨hz, vv, h0, h1, h2, h3, hv.below hb⟩
theorem RusFill.free {wr : World} {B : Nat} {Rs : List Ru} {k : Nat} (h : RusFill wr B Rs k) (i : Nat) : wr.frozen? ⟨B, i, none⟩ = false := by
  obtain ⟨f, hr, _⟩ := h
  exact hr.frozen i
theorem RusFill.there {wr : World} {B : Nat} {Rs : List Ru} {k : Nat} (h : RusFill wr B Rs k) (i : Nat) (hi : i < Rs.length * 4) : ∃ v, wr.cell? ⟨B, i, none⟩ = some v := by
  obtain ⟨f, hr, _⟩ := h
  exact ⟨_, hr.cell hi⟩
theorem RusFill.step {w1 : World} {B : Nat} {Rs : List Ru} {k : Nat} {vv : Value} (h : RusFill w1 B Rs k) (hk : k < Rs.length) (hz : RuSize Rs[k]) (hv : IntsIn (B + 1) w1 vv Rs[k].vb) :
    RusFill ((((w1.setCell ⟨B, k * 4, none⟩ vv).setCell ⟨B, k * 4 + 1, none⟩ (.string Rs[k].kd)).setCell ⟨B, k * 4 + 2, none⟩ (.string Rs[k].tm)).setCell ⟨B, k * 4 + 3, none⟩ (.string Rs[k].pf)) B Rs (k + 1) := by
  obtain ⟨f, hr, hall⟩ := h
  refine ⟨_, ((((hr.set _ _).set _ _).set _ _).set _ _), fun i hi hik => ?_⟩
  by_cases e : i = k
  · subst e
    refine ⟨hz, vv, by simp, by simp, by simp, by simp, ?_⟩
    repeat (refine IntsIn.setCell ?_ (by simp only []; omega) _)
    exact hv
  · obtain ⟨hz', vv', h0, h1, h2, h3, hv'⟩ := hall i hi (by omega)
    refine ⟨hz', vv', ?_, ?_, ?_, ?_, ?_⟩
    · rw [if_neg (by omega), if_neg (by omega), if_neg (by omega), if_neg (by omega)]; exact h0
    · rw [if_neg (by omega), if_neg (by omega), if_neg (by omega), if_neg (by omega)]; exact h1
    · rw [if_neg (by omega), if_neg (by omega), if_neg (by omega), if_neg (by omega)]; exact h2
    · rw [if_neg (by omega), if_neg (by omega), if_neg (by omega), if_neg (by omega)]; exact h3
    · repeat (refine IntsIn.setCell ?_ (by simp only []; omega) _)
      exact hv'
theorem RusFill.done {wr : World} {B : Nat} {Rs : List Ru} {k : Nat} (h : RusFill wr B Rs k) (hk : Rs.length ≤ k) (hne : Rs ≠ []) (hm : Rs.length ≤ maxLen) : RusAt B wr (.slice (some ⟨B, 0, none⟩) Rs.length Rs.length) Rs := by
  obtain ⟨f, hr, hall⟩ := h
  refine Or.inr ⟨B, 0, Rs.length, rfl, hne, hm, hr.lt, Nat.le_refl _, Nat.le_refl _, fun i hi => ?_⟩
  obtain ⟨hz, vv, h0, h1, h2, h3, hv⟩ := hall i hi (by omega)
  rw [Nat.zero_add]
  exact ⟨hz, vv, ⟨by rw [hr.cell (by omega), h0], by rw [hr.cell (by omega), h1], by rw [hr.cell (by omega), h2], by rw [hr.cell (by omega), h3]⟩, hv.mono (by omega)⟩
theorem RusFill.new (w : World) (Rs : List Ru) (z : Array Value) : RusFill (w.alloc (.cells (madeCells z (Rs.length * 4)) 89)) w.heap.size Rs 0 := by
  refine ⟨fun i => (madeCells z (Rs.length * 4)).getD i default, ?_, fun i _ h => by omega⟩
  have := World.rowIs_alloc w (madeCells z (Rs.length * 4)) 89 (fun i => (madeCells z (Rs.length * 4)).getD i default) (fun i hi => by simp [Array.getD, hi])
  rwa [size_madeCells] at this

end Go.Proofs.Ytmaagbnjpdijnaa

namespace Go.Proofs.Ytmaagbnjpdijnaa
open Go.ChangeShapes Go.WideShapes Go.ChangeAt Go.RowKit Go.Deep

theorem Try.cells105 : Try.prog.cellsOf 105 = 4 := by kernel_rfl
theorem Try.cells87 : Try.prog.cellsOf 87 = 1 := by kernel_rfl
theorem list4 {l : List Value} (h : l.length = 4) : ∃ c0 c1 c2 c3, l = [c0, c1, c2, c3] := by
  match l, h with
  | [c0, c1, c2, c3], _ => exact ⟨c0, c1, c2, c3, rfl⟩
section
variable {H : Type} {enc : TypeId × Value → H} {W : World}
set_option maxRecDepth 100000 in
theorem open_vbs {fuel : Nat} {c : Value} {x : DataW H × List MemPlace} (h : DataW.trod enc Try.prog W 0 (fun _ => true) true fuel 87 [c] = some x) : ∃ L, IntsIn 0 W c L := by
  rcases Go.ChangeShapes.open_ints Try.underlying87 Try.underlying3 Try.cells3 h with ⟨hcs, _⟩ | ⟨a, len, cap, zs, hcs, _, hl, hm, hzs, _, hcell, _⟩
  · simp only [List.cons.injEq, and_true] at hcs
    exact ⟨[], Or.inl ⟨_, _, hcs, rfl⟩⟩
  · simp only [List.cons.injEq, and_true] at hcs
    simp only [if_true] at hzs
    by_cases h0 : len = 0
    · subst h0
      exact ⟨[], Or.inl ⟨_, _, hcs, rfl⟩⟩
    · obtain ⟨b, off, spot⟩ := a
      have hspot : spot = none := by simpa [Addr.add] using World.cell?_spot (hcell 0 (by omega))
      subst hspot
      have hlen : (zs.take len).length = len := by rw [List.length_take]; omega
      refine ⟨zs.take len, Or.inr ⟨b, off, cap, by rw [hcs, hlen], ?_, by omega, ?_, Nat.zero_le _, ?_⟩⟩
      · intro e; rw [e] at hlen; simp at hlen; omega
      · exact World.block_lt_of_cell? W _ (hcell 0 (by omega))
      · intro i hi
        have := hcell i (by omega)
        rw [add_plain] at this
        rw [this, List.getElem_take, List.getD_eq_getElem?_getD, List.getElem?_eq_getElem (by omega)]
        rfl

set_option maxRecDepth 100000 in
theorem open_ru0 {fuel : Nat} {cs : List Value} {x : DataW H × List MemPlace} (h : DataW.trod enc Try.prog W 0 (fun _ => true) true fuel 105 cs = some x) :
    ∃ (r : Ru) (vv : Value), cs = [vv, .string r.kd, .string r.tm, .string r.pf] ∧ IntsIn 0 W vv r.vb ∧ RuSize r := by
  obtain ⟨xs, n, _, _, hl, hlen, hfld⟩ := DataW.trod_struct Try.underlying105 h
  obtain ⟨c0, c1, c2, c3, rfl⟩ := list4 (hl.trans Try.cells105)
  simp only [Array.size, List.length_cons, List.length_nil] at hlen
  have g0 : DataW.trod enc Try.prog W 0 (fun _ => true) true n 87 ((([c0, c1, c2, c3] : List Value).drop 0).take (Try.prog.cellsOf 87)) = xs[0]? := hfld 0 _ rfl
  have g1 : DataW.trod enc Try.prog W 0 (fun _ => true) true n 9 ((([c0, c1, c2, c3] : List Value).drop 1).take (Try.prog.cellsOf 9)) = xs[1]? := hfld 1 _ rfl
  have g2 : DataW.trod enc Try.prog W 0 (fun _ => true) true n 9 ((([c0, c1, c2, c3] : List Value).drop 2).take (Try.prog.cellsOf 9)) = xs[2]? := hfld 2 _ rfl
  have g3 : DataW.trod enc Try.prog W 0 (fun _ => true) true n 9 ((([c0, c1, c2, c3] : List Value).drop 3).take (Try.prog.cellsOf 9)) = xs[3]? := hfld 3 _ rfl
  simp only [Try.cells9, Try.cells87, List.drop_succ_cons, List.drop_zero, List.take_succ_cons, List.take_zero] at g0 g1 g2 g3
  rw [List.getElem?_eq_getElem (by omega)] at g0 g1 g2 g3
  obtain ⟨L, hL⟩ := open_vbs g0
  obtain ⟨k, e1, _, s1⟩ := DataW.trod_string Try.underlying9 g1
  obtain ⟨t, e2, _, s2⟩ := DataW.trod_string Try.underlying9 g2
  obtain ⟨p, e3, _, s3⟩ := DataW.trod_string Try.underlying9 g3
  simp only [List.cons.injEq, and_true] at e1 e2 e3
  subst e1 e2 e3
  exact ⟨⟨L, k, t, p⟩, c0, rfl, hL, ⟨s1, s2, s3⟩⟩

end
end Go.Proofs.Ytmaagbnjpdijnaa

