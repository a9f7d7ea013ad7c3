
import Derived.Test.YtoklnkojacdciaaRS
import Derived.ProofKit
import Derived.Deep.Strs
import Derived.Deep.RegionHeld
import Derived.ChangeSlices
namespace Go.Proofs.Ytoklnkojacdciaa
open Go.ChangeShapes Go.WideShapes Go.ChangeAt Go.RowKit Go.Deep
theorem Try.own : ownKnob Try.prog.godebug = none := by kernel_rfl
theorem Try.laidOut : laidOutB Try.prog = true := by kernel_rfl
theorem Try.cells9 : Try.prog.cellsOf 9 = 1 := by kernel_rfl
theorem Try.cells3 : Try.prog.cellsOf 3 = 1 := by kernel_rfl
theorem Try.cells4 : Try.prog.cellsOf 4 = 1 := by kernel_rfl
theorem choose_list {α : Type} {p : Nat → α → Prop} (n : Nat) : (∀ i, i < n → ∃ x, p i x) → ∃ L : List α, L.length = n ∧ ∀ i (h : i < L.length), p i L[i] := by
  induction n with
  | zero => intro _; exact ⟨[], rfl, fun i h => absurd h (by simp)⟩
  | succ n ih =>
    intro h
    obtain ⟨L, hl, hL⟩ := ih (fun i hi => h i (by omega))
    obtain ⟨x, hx⟩ := h n (by omega)
    refine ⟨L ++ [x], by simp [hl], fun i hi => ?_⟩
    by_cases e : i < L.length
    · rw [List.getElem_append_left e]; exact hL i e
    · have e2 : i = n := by simp at hi; omega
      subst e2
      have : (L ++ [x])[i] = x := by rw [List.getElem_append_right (by omega)]; simp [hl]
      rw [this]; exact hx
theorem Try.cells145 : Try.prog.cellsOf 145 = 2 := by kernel_rfl
theorem lstRs {l : List Value} (h : l.length = 2) : ∃ c0 c1, l = [c0, c1] := by
  match l, h with
  | [c0, c1], _ => exact ⟨c0, c1, rfl⟩
section
variable {H : Type} {enc : TypeId × Value → H} {W : World}
set_option maxRecDepth 100000 in
theorem open_Rs {fuel : Nat} {cs : List Value} {x : DataW H × List MemPlace} (h : DataW.trod enc Try.prog W 0 (fun _ => true) true fuel 145 cs = some x) :
    ∃ (x : Rs), cs = [.int .i64 x.ba, .string x.tx] ∧ RsSize x := by
  obtain ⟨xs, n, _, _, hl, hlen, hfld⟩ := DataW.trod_struct Try.underlying145 h
  obtain ⟨c0, c1, rfl⟩ := lstRs (hl.trans Try.cells145)
  simp only [Array.size, List.length_cons, List.length_nil] at hlen
  have g0 : DataW.trod enc Try.prog W 0 (fun _ => true) true n 3 ((([c0, c1] : List Value).drop 0).take (Try.prog.cellsOf 3)) = xs[0]? := hfld 0 _ rfl
  have g1 : DataW.trod enc Try.prog W 0 (fun _ => true) true n 9 ((([c0, c1] : List Value).drop 1).take (Try.prog.cellsOf 9)) = xs[1]? := hfld 1 _ rfl
  simp only [Try.cells3, Try.cells9, List.drop_succ_cons, List.drop_zero, List.take_succ_cons, List.take_zero] at g0 g1
  rw [List.getElem?_eq_getElem (by omega)] at g0 g1
  obtain ⟨q0, e0, _, _⟩ := DataW.trod_int Try.underlying3 g0
  obtain ⟨q1, e1, _, s1⟩ := DataW.trod_string Try.underlying9 g1
  simp only [List.cons.injEq, and_true] at e0 e1
  subst e0 e1
  exact ⟨⟨q0, q1⟩, rfl, ⟨s1⟩⟩
set_option maxRecDepth 100000 in
theorem open_Rss {fuel : Nat} {c : Value} {x : DataW H × List MemPlace} (h : DataW.trod enc Try.prog W 0 (fun _ => true) true fuel 92 [c] = some x) : ∃ Xl, RssAt 0 W c Xl := by
  rcases open_slice Try.underlying92 h with ⟨hcs, _⟩ | ⟨a, len, cap, m, n, D, Pl, hcs, _, hl, hm, hmm, _, hx⟩
  · simp only [List.cons.injEq, and_true] at hcs
    exact ⟨[], Or.inl ⟨_, _, hcs, rfl⟩⟩
  · simp only [List.cons.injEq, and_true] at hcs
    simp only [if_true] at hmm
    subst hmm
    rw [Try.cells145] at hx
    by_cases h0 : len = 0
    · subst h0
      exact ⟨[], Or.inl ⟨_, _, hcs, rfl⟩⟩
    · obtain ⟨Xl, hF, hall⟩ := choose_list (p := fun i (x : Rs) => RsSize x ∧ W.cells? 0 (a.add (i * 2)) 2 = some [.int .i64 x.ba, .string x.tx]) len (fun i hi => by
        obtain ⟨cs', h1, h2⟩ := hx i (by omega)
        obtain ⟨md, e, hz⟩ := open_Rs h2
        rw [e] at h1
        exact ⟨md, hz, h1⟩)
      obtain ⟨b, off, spot⟩ := a
      have hspot : spot = none := by
        obtain ⟨_, h1⟩ := hall 0 (by omega)
        have := (World.cells?_some h1).2.2 0 (by omega)
        rw [Nat.zero_mul] at this
        have e0 : ((⟨b, off, spot⟩ : Addr).add 0).add 0 = ⟨b, off, spot⟩ := by simp [Addr.add]
        rw [e0] at this
        simpa using World.cell?_spot (by simpa using this)
      subst hspot
      have hcell : ∀ i (hi : i < Xl.length), W.cells? 0 ((⟨b, off, none⟩ : Addr).add (i * 2)) 2 = some [.int .i64 Xl[i].ba, .string Xl[i].tx] → RsCells W b (off + i * 2) Xl[i] := fun i hi h1 => by
        obtain ⟨_, _, hc⟩ := World.cells?_some h1
        rw [add_plain] at hc
        have q := fun j (hj : j < 2) => (add_plain b (off + i * 2) j) ▸ hc j hj
        exact ⟨by simpa using q 0 (by omega), by simpa using q 1 (by omega)⟩
      have hbw : b < W.heap.size := by
        obtain ⟨_, h1⟩ := hall 0 (by omega)
        exact World.block_lt_of_cell? W _ (hcell 0 (by omega) h1).c0
      refine ⟨Xl, Or.inr ⟨b, off, m, by rw [hcs, hF], ?_, by omega, hbw, Nat.zero_le _, by omega, fun i hi => ?_⟩⟩
      · intro e; rw [e] at hF; simp at hF; omega
      · obtain ⟨hz, h1⟩ := hall i hi
        exact ⟨hz, hcell i hi h1⟩
end
end Go.Proofs.Ytoklnkojacdciaa
