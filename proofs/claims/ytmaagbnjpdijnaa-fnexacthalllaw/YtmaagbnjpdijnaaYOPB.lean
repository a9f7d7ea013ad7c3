import Derived.Test.YtmaagbnjpdijnaaYNN
import Derived.Test.YtmaagbnjpdijnaaYTD
import Derived.Test.YtmaagbnjpdijnaaYBBL
import Derived.ChangeSlices
import Derived.Test.YtmaagbnjpdijnaaYLA
import Derived.Test.YtmaagbnjpdijnaaYTA
import Derived.Test.YtmaagbnjpdijnaaYN9
import Derived.Test.YtmaagbnjpdijnaaYBOG
import Derived.Test.YtmaagbnjpdijnaaYTF
namespace Go.Proofs.Ytmaagbnjpdijnaa
open Go.ChangeShapes Go.WideShapes Go.ChangeAt Go.RowKit Go.Deep

section
variable {H : Type} {enc : TypeId × Value → H} {W : World}
end
section
variable {H : Type} {enc : TypeId × Value → H} {W : World}
end
theorem Try.cells107 : Try.prog.cellsOf 107 = 7 := by kernel_rfl
theorem lstGr {l : List Value} (h : l.length = 7) : ∃ c0 c1 c2 c3 c4 c5 c6, l = [c0, c1, c2, c3, c4, c5, c6] := by
  match l, h with
  | [c0, c1, c2, c3, c4, c5, c6], _ => exact ⟨c0, c1, c2, c3, c4, c5, c6, rfl⟩
section
variable {H : Type} {enc : TypeId × Value → H} {W : World}
set_option maxRecDepth 100000 in
theorem open_Gr {fuel : Nat} {cs : List Value} {x : DataW H × List MemPlace} (h : DataW.trod enc Try.prog W 0 (fun _ => true) true fuel 107 cs = some x) :
    ∃ (x : Gr) (vv0 : Value), cs = [.int .i64 x.nu, .string x.tw, .string x.gb, vv0, .string x.kd, .string x.tm, .string x.pf] ∧ IntsIn 0 W vv0 x.vb ∧ GrSize x := by
  obtain ⟨xs, n, _, _, hl, hlen, hfld⟩ := DataW.trod_struct Try.underlying107 h
  obtain ⟨c0, c1, c2, c3, c4, c5, c6, rfl⟩ := lstGr (hl.trans Try.cells107)
  simp only [Array.size, List.length_cons, List.length_nil] at hlen
  have g0 : DataW.trod enc Try.prog W 0 (fun _ => true) true n 3 ((([c0, c1, c2, c3, c4, c5, c6] : List Value).drop 0).take (Try.prog.cellsOf 3)) = xs[0]? := hfld 0 _ rfl
  have g1 : DataW.trod enc Try.prog W 0 (fun _ => true) true n 9 ((([c0, c1, c2, c3, c4, c5, c6] : List Value).drop 1).take (Try.prog.cellsOf 9)) = xs[1]? := hfld 1 _ rfl
  have g2 : DataW.trod enc Try.prog W 0 (fun _ => true) true n 9 ((([c0, c1, c2, c3, c4, c5, c6] : List Value).drop 2).take (Try.prog.cellsOf 9)) = xs[2]? := hfld 2 _ rfl
  have g3 : DataW.trod enc Try.prog W 0 (fun _ => true) true n 105 ((([c0, c1, c2, c3, c4, c5, c6] : List Value).drop 3).take (Try.prog.cellsOf 105)) = xs[3]? := hfld 3 _ rfl
  simp only [Try.cells3, Try.cells105, Try.cells9, List.drop_succ_cons, List.drop_zero, List.take_succ_cons, List.take_zero] at g0 g1 g2 g3
  rw [List.getElem?_eq_getElem (by omega)] at g0 g1 g2 g3
  obtain ⟨q0, e0, _, _⟩ := DataW.trod_int Try.underlying3 g0
  obtain ⟨q1, e1, _, s1⟩ := DataW.trod_string Try.underlying9 g1
  obtain ⟨q2, e2, _, s2⟩ := DataW.trod_string Try.underlying9 g2
  obtain ⟨q3, v3, e3, hq3, z3⟩ := open_ru0 g3
  simp only [List.cons.injEq, and_true] at e0 e1 e2 e3
  obtain ⟨r0, r1, r2, r3⟩ := e3
  subst e0 e1 e2 r0 r1 r2 r3
  exact ⟨⟨q0, q1, q2, q3.vb, q3.kd, q3.tm, q3.pf⟩, _, rfl, hq3, ⟨s1, s2, z3.s1, z3.s2, z3.s3⟩⟩
set_option maxRecDepth 100000 in
theorem open_Grs {fuel : Nat} {c : Value} {x : DataW H × List MemPlace} (h : DataW.trod enc Try.prog W 0 (fun _ => true) true fuel 23 [c] = some x) : ∃ Xl, GrsAt 0 W c Xl := by
  rcases open_slice Try.underlying23 h with ⟨hcs, _⟩ | ⟨a, len, cap, m, n, D, Pl, hcs, _, hl, hm, hmm, _, hx⟩
  · simp only [List.cons.injEq, and_true] at hcs
    exact ⟨[], Or.inl ⟨_, _, hcs, rfl⟩⟩
  · simp only [List.cons.injEq, and_true] at hcs
    simp only [if_true] at hmm
    subst hmm
    rw [Try.cells107] at hx
    by_cases h0 : len = 0
    · subst h0
      exact ⟨[], Or.inl ⟨_, _, hcs, rfl⟩⟩
    · obtain ⟨Xl, hF, hall⟩ := choose_list (p := fun i (x : Gr) => GrSize x ∧ ∃ vv0, IntsIn 0 W vv0 x.vb ∧ W.cells? 0 (a.add (i * 7)) 7 = some [.int .i64 x.nu, .string x.tw, .string x.gb, vv0, .string x.kd, .string x.tm, .string x.pf]) len (fun i hi => by
        obtain ⟨cs', h1, h2⟩ := hx i (by omega)
        obtain ⟨md, vv0, e, hw0, hz⟩ := open_Gr h2
        rw [e] at h1
        exact ⟨md, hz, vv0, hw0, h1⟩)
      obtain ⟨b, off, spot⟩ := a
      have hspot : spot = none := by
        obtain ⟨_, vv0, _, h1⟩ := hall 0 (by omega)
        have := (World.cells?_some h1).2.2 0 (by omega)
        rw [Nat.zero_mul] at this
        have e0 : ((⟨b, off, spot⟩ : Addr).add 0).add 0 = ⟨b, off, spot⟩ := by simp [Addr.add]
        rw [e0] at this
        simpa using World.cell?_spot (by simpa using this)
      subst hspot
      have hcell : ∀ i (hi : i < Xl.length) vv0, W.cells? 0 ((⟨b, off, none⟩ : Addr).add (i * 7)) 7 = some [.int .i64 Xl[i].nu, .string Xl[i].tw, .string Xl[i].gb, vv0, .string Xl[i].kd, .string Xl[i].tm, .string Xl[i].pf] → GrCells W b (off + i * 7) Xl[i] vv0 := fun i hi vv0 h1 => by
        obtain ⟨_, _, hc⟩ := World.cells?_some h1
        rw [add_plain] at hc
        have q := fun j (hj : j < 7) => (add_plain b (off + i * 7) j) ▸ hc j hj
        exact ⟨by simpa using q 0 (by omega), by simpa using q 1 (by omega), by simpa using q 2 (by omega), by simpa using q 3 (by omega), by simpa using q 4 (by omega), by simpa using q 5 (by omega), by simpa using q 6 (by omega)⟩
      have hbw : b < W.heap.size := by
        obtain ⟨_, vv0, _, h1⟩ := hall 0 (by omega)
        exact World.block_lt_of_cell? W _ (hcell 0 (by omega) vv0 h1).c0
      refine ⟨Xl, Or.inr ⟨b, off, m, by rw [hcs, hF], ?_, by omega, hbw, Nat.zero_le _, by omega, fun i hi => ?_⟩⟩
      · intro e; rw [e] at hF; simp at hF; omega
      · obtain ⟨hz, vv0, hw0, h1⟩ := hall i hi
        exact ⟨hz, vv0, hcell i hi vv0 h1, hw0⟩
end
section
variable {H : Type} {enc : TypeId × Value → H} {W : World}
end
section
variable {H : Type} {enc : TypeId × Value → H} {W : World}
end
theorem Try.cells23 : Try.prog.cellsOf 23 = 1 := by kernel_rfl
section
variable {H : Type} {enc : TypeId × Value → H} {W : World}
end
end Go.Proofs.Ytmaagbnjpdijnaa

namespace Go.Proofs.Ytmaagbnjpdijnaa
open Go.RowKit Go.Deep

section
variable (lo : Nat) (sv mv tv : Value) (Ss : List Sh) (Ms : List Md) (Ts : List Tm) (w : World)

end
end Go.Proofs.Ytmaagbnjpdijnaa

