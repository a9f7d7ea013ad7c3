import Derived.Test.YtlgakpnjicdblabN1
import Derived.Test.YtlgakpnjicdblabOpB
namespace Go.Proofs.Ytlgakpnjicdblab
open Go.ChangeShapes Go.WideShapes Go.ChangeAt Go.RowKit Go.Deep

theorem Try.cells40 : Try.prog.cellsOf 40 = 6 := by kernel_rfl
theorem list6 {l : List Value} (h : l.length = 6) : ∃ c0 c1 c2 c3 c4 c5, l = [c0, c1, c2, c3, c4, c5] := by
  match l, h with
  | [c0, c1, c2, c3, c4, c5], _ => exact ⟨c0, c1, c2, c3, c4, c5, rfl⟩
section
variable {H : Type} {enc : TypeId × Value → H} {W : World}
set_option maxRecDepth 100000 in
theorem open_md {fuel : Nat} {cs : List Value} {x : DataW H × List MemPlace} (h : DataW.trod enc Try.prog W 0 (fun _ => true) true fuel 40 cs = some x) :
    ∃ (m : Md), cs = [.string m.kind, .string m.field, .string m.wh, .string m.is, .string m.put, .string m.fr] ∧ MdSize m := by
  obtain ⟨xs, n, _, _, hl, hlen, hfld⟩ := DataW.trod_struct Try.underlying40 h
  obtain ⟨c0, c1, c2, c3, c4, c5, rfl⟩ := list6 (hl.trans Try.cells40)
  simp only [Array.size, List.length_cons, List.length_nil] at hlen
  have g0 : DataW.trod enc Try.prog W 0 (fun _ => true) true n 9 ((([c0, c1, c2, c3, c4, c5] : List Value).drop 0).take (Try.prog.cellsOf 9)) = xs[0]? := hfld 0 _ rfl
  have g1 : DataW.trod enc Try.prog W 0 (fun _ => true) true n 9 ((([c0, c1, c2, c3, c4, c5] : List Value).drop 1).take (Try.prog.cellsOf 9)) = xs[1]? := hfld 1 _ rfl
  have g2 : DataW.trod enc Try.prog W 0 (fun _ => true) true n 9 ((([c0, c1, c2, c3, c4, c5] : List Value).drop 2).take (Try.prog.cellsOf 9)) = xs[2]? := hfld 2 _ rfl
  have g3 : DataW.trod enc Try.prog W 0 (fun _ => true) true n 9 ((([c0, c1, c2, c3, c4, c5] : List Value).drop 3).take (Try.prog.cellsOf 9)) = xs[3]? := hfld 3 _ rfl
  have g4 : DataW.trod enc Try.prog W 0 (fun _ => true) true n 9 ((([c0, c1, c2, c3, c4, c5] : List Value).drop 4).take (Try.prog.cellsOf 9)) = xs[4]? := hfld 4 _ rfl
  have g5 : DataW.trod enc Try.prog W 0 (fun _ => true) true n 9 ((([c0, c1, c2, c3, c4, c5] : List Value).drop 5).take (Try.prog.cellsOf 9)) = xs[5]? := hfld 5 _ rfl
  simp only [Try.cells9, List.drop_succ_cons, List.drop_zero, List.take_succ_cons, List.take_zero] at g0 g1 g2 g3 g4 g5
  rw [List.getElem?_eq_getElem (by omega)] at g0 g1 g2 g3 g4 g5
  obtain ⟨k, e0, _, s0⟩ := DataW.trod_string Try.underlying9 g0
  obtain ⟨f, e1, _, s1⟩ := DataW.trod_string Try.underlying9 g1
  obtain ⟨wh, e2, _, s2⟩ := DataW.trod_string Try.underlying9 g2
  obtain ⟨is, e3, _, s3⟩ := DataW.trod_string Try.underlying9 g3
  obtain ⟨pu, e4, _, s4⟩ := DataW.trod_string Try.underlying9 g4
  obtain ⟨fr, e5, _, s5⟩ := DataW.trod_string Try.underlying9 g5
  simp only [List.cons.injEq, and_true] at e0 e1 e2 e3 e4 e5
  subst e0 e1 e2 e3 e4 e5
  exact ⟨⟨k, f, wh, is, pu, fr⟩, rfl, ⟨s0, s1, s2, s3, s4, s5⟩⟩

set_option maxRecDepth 100000 in
theorem open_mds {fuel : Nat} {c : Value} {x : DataW H × List MemPlace} (h : DataW.trod enc Try.prog W 0 (fun _ => true) true fuel 23 [c] = some x) : ∃ Ms, MdsAt 0 W c Ms := by
  rcases open_slice Try.underlying23 h with ⟨hcs, _⟩ | ⟨a, len, cap, m, n, D, Pl, hcs, _, hl, hm, hmm, _, hx⟩
  · simp only [List.cons.injEq, and_true] at hcs
    exact ⟨[], Or.inl ⟨_, _, hcs, rfl⟩⟩
  · simp only [List.cons.injEq, and_true] at hcs
    simp only [if_true] at hmm
    subst hmm
    rw [Try.cells40] at hx
    by_cases h0 : len = 0
    · subst h0
      exact ⟨[], Or.inl ⟨_, _, hcs, rfl⟩⟩
    · obtain ⟨Ms, hF, hall⟩ := choose_list (p := fun i (m : Md) => MdSize m ∧ W.cells? 0 (a.add (i * 6)) 6 = some [.string m.kind, .string m.field, .string m.wh, .string m.is, .string m.put, .string m.fr]) len (fun i hi => by
        obtain ⟨cs', h1, h2⟩ := hx i (by omega)
        obtain ⟨md, e, hz⟩ := open_md h2
        rw [e] at h1
        exact ⟨md, hz, h1⟩)
      obtain ⟨b, off, spot⟩ := a
      have hspot : spot = none := by
        obtain ⟨_, h1⟩ := hall 0 (by omega)
        have := (World.cells?_some h1).2.2 0 (by omega)
        rw [Nat.zero_mul] at this
        have e0 : ((⟨b, off, spot⟩ : Addr).add 0).add 0 = ⟨b, off, spot⟩ := by simp [Addr.add]
        rw [e0] at this
        simpa using World.cell?_spot (by simpa using this)
      subst hspot
      have hcell : ∀ i (hi : i < Ms.length), W.cells? 0 ((⟨b, off, none⟩ : Addr).add (i * 6)) 6 = some [.string Ms[i].kind, .string Ms[i].field, .string Ms[i].wh, .string Ms[i].is, .string Ms[i].put, .string Ms[i].fr] → MdCells W b (off + i * 6) Ms[i] := fun i hi h1 => by
        obtain ⟨_, _, hc⟩ := World.cells?_some h1
        rw [add_plain] at hc
        have q := fun j (hj : j < 6) => (add_plain b (off + i * 6) j) ▸ hc j hj
        exact ⟨by simpa using q 0 (by omega), by simpa using q 1 (by omega), by simpa using q 2 (by omega), by simpa using q 3 (by omega), by simpa using q 4 (by omega), by simpa using q 5 (by omega)⟩
      have hbw : b < W.heap.size := by
        obtain ⟨_, h1⟩ := hall 0 (by omega)
        exact World.block_lt_of_cell? W _ (hcell 0 (by omega) h1).c0
      refine ⟨Ms, Or.inr ⟨b, off, m, by rw [hcs, hF], ?_, by omega, hbw, Nat.zero_le _, by omega, fun i hi => ?_⟩⟩
      · intro e; rw [e] at hF; simp at hF; omega
      · obtain ⟨hz, h1⟩ := hall i hi
        exact ⟨hz, hcell i hi h1⟩
end
end Go.Proofs.Ytlgakpnjicdblab
