
import Derived.Test.YtfajekibnjdlmabDoorOpT
import Derived.Test.YtfajekibnjdlmabDoorT11
import Derived.ChangeSlices
namespace Go.Proofs.YtfajekibnjdlmabDoor
open Go.ChangeShapes Go.WideShapes Go.ChangeAt Go.RowKit Go.Deep

theorem Tryd.cells26 : Tryd.prog.cellsOf 26 = 4 := by kernel_rfl
theorem Tryd.cells24 : Tryd.prog.cellsOf 24 = 1 := by kernel_rfl
theorem list4 {l : List Value} (h : l.length = 4) : ∃ c0 c1 c2 c3, l = [c0, c1, c2, c3] := by
  match l, h with
  | [c0, c1, c2, c3], _ => exact ⟨c0, c1, c2, c3, rfl⟩
theorem array4 {cs : Array Value} (h : cs.size = 4) : ∃ c0 c1 c2 c3, cs = #[c0, c1, c2, c3] := by
  obtain ⟨l⟩ := cs
  match l, h with
  | [c0, c1, c2, c3], _ => exact ⟨c0, c1, c2, c3, rfl⟩
section
variable {H : Type} {enc : TypeId × Value → H} {W : World}
set_option maxRecDepth 100000 in
theorem open_vbs {fuel : Nat} {c : Value} {x : DataW H × List MemPlace} (h : DataW.trod enc Tryd.prog W 0 (fun _ => true) true fuel 24 [c] = some x) : ∃ L, IntsIn 0 W c L := by
  rcases Go.ChangeShapes.open_ints Tryd.underlying24 Tryd.underlying3 Tryd.cells3 h with ⟨hcs, _⟩ | ⟨a, len, cap, zs, hcs, _, hl, hm, hzs, _, hcell, _⟩
  · simp only [List.cons.injEq, and_true] at hcs
    exact ⟨[], Or.inl ⟨_, _, hcs, rfl⟩⟩
  · simp only [List.cons.injEq, and_true] at hcs
    simp only [if_true] at hzs
    by_cases h0 : len = 0
    · subst h0
      exact ⟨[], Or.inl ⟨_, _, hcs, rfl⟩⟩
    · obtain ⟨b, off, spot⟩ := a
      have hspot : spot = none := by simpa [Addr.add] using World.cell?_spot (hcell 0 (by omega))
      subst hspot
      have hlen : (zs.take len).length = len := by rw [List.length_take]; omega
      refine ⟨zs.take len, Or.inr ⟨b, off, cap, by rw [hcs, hlen], ?_, by omega, ?_, Nat.zero_le _, ?_⟩⟩
      · intro e; rw [e] at hlen; simp at hlen; omega
      · exact World.block_lt_of_cell? W _ (hcell 0 (by omega))
      · intro i hi
        have := hcell i (by omega)
        rw [add_plain] at this
        rw [this, List.getElem_take, List.getD_eq_getElem?_getD, List.getElem?_eq_getElem (by omega)]
        rfl

set_option maxRecDepth 100000 in
theorem open_ru0 {fuel : Nat} {cs : List Value} {x : DataW H × List MemPlace} (h : DataW.trod enc Tryd.prog W 0 (fun _ => true) true fuel 26 cs = some x) :
    ∃ (r : Ru) (vv : Value), cs = [vv, .string r.kd, .string r.tm, .string r.pf] ∧ IntsIn 0 W vv r.vb ∧ RuSize r := by
  obtain ⟨xs, n, _, _, hl, hlen, hfld⟩ := DataW.trod_struct Tryd.underlying26 h
  obtain ⟨c0, c1, c2, c3, rfl⟩ := list4 (hl.trans Tryd.cells26)
  simp only [Array.size, List.length_cons, List.length_nil] at hlen
  have g0 : DataW.trod enc Tryd.prog W 0 (fun _ => true) true n 24 ((([c0, c1, c2, c3] : List Value).drop 0).take (Tryd.prog.cellsOf 24)) = xs[0]? := hfld 0 _ rfl
  have g1 : DataW.trod enc Tryd.prog W 0 (fun _ => true) true n 9 ((([c0, c1, c2, c3] : List Value).drop 1).take (Tryd.prog.cellsOf 9)) = xs[1]? := hfld 1 _ rfl
  have g2 : DataW.trod enc Tryd.prog W 0 (fun _ => true) true n 9 ((([c0, c1, c2, c3] : List Value).drop 2).take (Tryd.prog.cellsOf 9)) = xs[2]? := hfld 2 _ rfl
  have g3 : DataW.trod enc Tryd.prog W 0 (fun _ => true) true n 9 ((([c0, c1, c2, c3] : List Value).drop 3).take (Tryd.prog.cellsOf 9)) = xs[3]? := hfld 3 _ rfl
  simp only [Tryd.cells9, Tryd.cells24, List.drop_succ_cons, List.drop_zero, List.take_succ_cons, List.take_zero] at g0 g1 g2 g3
  rw [List.getElem?_eq_getElem (by omega)] at g0 g1 g2 g3
  obtain ⟨L, hL⟩ := open_vbs g0
  obtain ⟨k, e1, _, s1⟩ := DataW.trod_string Tryd.underlying9 g1
  obtain ⟨t, e2, _, s2⟩ := DataW.trod_string Tryd.underlying9 g2
  obtain ⟨p, e3, _, s3⟩ := DataW.trod_string Tryd.underlying9 g3
  simp only [List.cons.injEq, and_true] at e1 e2 e3
  subst e1 e2 e3
  exact ⟨⟨L, k, t, p⟩, c0, rfl, hL, ⟨s1, s2, s3⟩⟩

set_option maxRecDepth 100000 in
theorem open_ru {r : Reach} {b0 : Nat} {v : Value} {d : DataW H} {p : List MemPlace} (hv : Value.okWide Tryd.prog W r b0 26 v) (h : DataW.Trod enc Tryd.prog W 0 (fun _ => true) true 26 v d p) :
    ∃ (q : Ru) (vv : Value), v = .agg #[vv, .string q.kd, .string q.tm, .string q.pf] ∧ IntsIn 0 W vv q.vb ∧ RuSize q := by
  obtain ⟨cs, rfl, hsz⟩ := okWide_struct Tryd.underlying26 hv
  obtain ⟨fuel, hf⟩ := h
  obtain ⟨q, vv, e, hL, hz⟩ := open_ru0 hf
  refine ⟨q, vv, ?_, hL, hz⟩
  obtain ⟨l⟩ := cs
  simp [Value.cells] at e
  subst e
  rfl

set_option maxRecDepth 100000 in
theorem open_rus {fuel : Nat} {c : Value} {x : DataW H × List MemPlace} (h : DataW.trod enc Tryd.prog W 0 (fun _ => true) true fuel 23 [c] = some x) : ∃ Rs, RusAt 0 W c Rs := by
  rcases open_slice Tryd.underlying23 h with ⟨hcs, _⟩ | ⟨a, len, cap, m, n, D, Pl, hcs, _, hl, hm, hmm, _, hx⟩
  · simp only [List.cons.injEq, and_true] at hcs
    exact ⟨[], Or.inl ⟨_, _, hcs, rfl⟩⟩
  · simp only [List.cons.injEq, and_true] at hcs
    simp only [if_true] at hmm
    subst hmm
    rw [Tryd.cells26] at hx
    by_cases h0 : len = 0
    · subst h0
      exact ⟨[], Or.inl ⟨_, _, hcs, rfl⟩⟩
    · obtain ⟨Rs, hF, hall⟩ := choose_list (p := fun i (m : Ru) => RuSize m ∧ ∃ vv, IntsIn 0 W vv m.vb ∧ W.cells? 0 (a.add (i * 4)) 4 = some [vv, .string m.kd, .string m.tm, .string m.pf]) len (fun i hi => by
        obtain ⟨cs', h1, h2⟩ := hx i (by omega)
        obtain ⟨md, vv, e, hL, hz⟩ := open_ru0 h2
        rw [e] at h1
        exact ⟨md, hz, vv, hL, h1⟩)
      obtain ⟨b, off, spot⟩ := a
      have hspot : spot = none := by
        obtain ⟨_, _, _, h1⟩ := hall 0 (by omega)
        have := (World.cells?_some h1).2.2 0 (by omega)
        rw [Nat.zero_mul] at this
        have e0 : ((⟨b, off, spot⟩ : Addr).add 0).add 0 = ⟨b, off, spot⟩ := by simp [Addr.add]
        rw [e0] at this
        simpa using World.cell?_spot (by simpa using this)
      subst hspot
      have hcell : ∀ i (hi : i < Rs.length) vv, W.cells? 0 ((⟨b, off, none⟩ : Addr).add (i * 4)) 4 = some [vv, .string Rs[i].kd, .string Rs[i].tm, .string Rs[i].pf] → RuCells W b (off + i * 4) Rs[i] vv := fun i hi vv h1 => by
        obtain ⟨_, _, hc⟩ := World.cells?_some h1
        rw [add_plain] at hc
        have q := fun j (hj : j < 4) => (add_plain b (off + i * 4) j) ▸ hc j hj
        exact ⟨by simpa using q 0 (by omega), by simpa using q 1 (by omega), by simpa using q 2 (by omega), by simpa using q 3 (by omega)⟩
      have hbw : b < W.heap.size := by
        obtain ⟨_, vv, _, h1⟩ := hall 0 (by omega)
        exact World.block_lt_of_cell? W _ (hcell 0 (by omega) vv h1).c0
      refine ⟨Rs, Or.inr ⟨b, off, m, by rw [hcs, hF], ?_, by omega, hbw, Nat.zero_le _, by omega, fun i hi => ?_⟩⟩
      · intro e; rw [e] at hF; simp at hF; omega
      · obtain ⟨hz, vv, hL, h1⟩ := hall i hi
        exact ⟨hz, vv, hcell i hi vv h1, hL⟩
end
end Go.Proofs.YtfajekibnjdlmabDoor
