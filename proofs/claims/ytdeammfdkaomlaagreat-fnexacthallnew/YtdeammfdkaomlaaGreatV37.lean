import Derived.Test.YtdeammfdkaomlaaGreatV35
import Derived.ChangeSlices
namespace Go.Proofs.YtdeammfdkaomlaaGreat
open Go.RowKit Go.Deep

def Tmvs : List Tm → List Value
  | [] => []
  | x :: L => .string x.nm :: .string x.ov :: Tmvs L
theorem Tmvs_len : ∀ L : List Tm, (Tmvs L).length = L.length * 2
  | [] => rfl
  | x :: L => by simp only [Tmvs, List.length_cons, Tmvs_len L]; omega
theorem Tmvs_at : ∀ (L : List Tm) (i : Nat) (h : i < L.length), (Tmvs L)[i * 2]? = some (.string L[i].nm) ∧ (Tmvs L)[i * 2 + 1]? = some (.string L[i].ov)
  | [], i, h => by simp at h
  | x :: L, 0, _ => ⟨rfl, rfl⟩
  | x :: L, i + 1, h => by
    have := Tmvs_at L i (by simpa using h)
    rw [show (i + 1) * 2 = i * 2 + 1 + 1 by omega]
    exact this
theorem Tmvs_news {lo : Nat} {w W : World} {ad : Addr} {cap : Nat} {L : List Tm} (h : TmsAt lo w (.slice (some ad) L.length cap) L) (hb : Below w.heap.size w W) : ∀ j u, (Tmvs L)[j]? = some u → W.cell? (ad.add j) = some u := by
  intro j u hj
  have hl : j < L.length * 2 := by
    rcases Nat.lt_or_ge j (L.length * 2) with h | h
    · exact h
    · rw [List.getElem?_eq_none (by rw [Tmvs_len]; exact h)] at hj; cases hj
  obtain ⟨b, off, e, hlt, hc⟩ := h.full' (by omega)
  injection e with e
  subst e
  have hi : j / 2 < L.length := by omega
  obtain ⟨_, hcc⟩ := hc (j / 2) hi
  obtain ⟨h0, h1⟩ := hcc
  obtain ⟨v0, v1⟩ := Tmvs_at L (j / 2) hi
  rw [Go.WideShapes.add_plain, hb.cell (p := ⟨b, off + j, none⟩) hlt]
  have hm : j = j / 2 * 2 ∨ j = j / 2 * 2 + 1 := by omega
  rcases hm with hm | hm
  · have e1 : (Tmvs L)[j]? = (Tmvs L)[j / 2 * 2]? := congrArg (fun q => (Tmvs L)[q]?) hm
    have e2 : w.cell? ⟨b, off + j, none⟩ = w.cell? ⟨b, off + j / 2 * 2, none⟩ := congrArg (fun q => w.cell? ⟨b, q, none⟩) (by omega)
    exact e2.trans (h0.trans (v0.symm.trans (e1.symm.trans hj)))
  · have e1 : (Tmvs L)[j]? = (Tmvs L)[j / 2 * 2 + 1]? := congrArg (fun q => (Tmvs L)[q]?) hm
    have e2 : w.cell? ⟨b, off + j, none⟩ = w.cell? ⟨b, off + j / 2 * 2 + 1, none⟩ := congrArg (fun q => w.cell? ⟨b, q, none⟩) (by omega)
    exact e2.trans (h1.trans (v1.symm.trans (e1.symm.trans hj)))
end Go.Proofs.YtdeammfdkaomlaaGreat
namespace Go.Proofs.YtdeammfdkaomlaaGreat
open Go.ChangeShapes Go.WideShapes Go.ChangeAt Go.RowKit Go.Deep

theorem Tryz.cells127 : Tryz.prog.cellsOf 127 = 4 := by kernel_rfl
theorem Tryz.cells51 : Tryz.prog.cellsOf 51 = 1 := by kernel_rfl
theorem list4 {l : List Value} (h : l.length = 4) : ∃ c0 c1 c2 c3, l = [c0, c1, c2, c3] := by
  match l, h with
  | [c0, c1, c2, c3], _ => exact ⟨c0, c1, c2, c3, rfl⟩
section
variable {H : Type} {enc : TypeId × Value → H} {W : World}
set_option maxRecDepth 100000 in
theorem open_vbs {fuel : Nat} {c : Value} {x : DataW H × List MemPlace} (h : DataW.trod enc Tryz.prog W 0 (fun _ => true) true fuel 51 [c] = some x) : ∃ L, IntsIn 0 W c L := by
  rcases Go.ChangeShapes.open_ints Tryz.underlying51 Tryz.underlying3 Tryz.cells3 h with ⟨hcs, _⟩ | ⟨a, len, cap, zs, hcs, _, hl, hm, hzs, _, hcell, _⟩
  · simp only [List.cons.injEq, and_true] at hcs
    exact ⟨[], Or.inl ⟨_, _, hcs, rfl⟩⟩
  · simp only [List.cons.injEq, and_true] at hcs
    simp only [if_true] at hzs
    by_cases h0 : len = 0
    · subst h0
      exact ⟨[], Or.inl ⟨_, _, hcs, rfl⟩⟩
    · obtain ⟨b, off, spot⟩ := a
      have hspot : spot = none := by simpa [Addr.add] using World.cell?_spot (hcell 0 (by omega))
      subst hspot
      have hlen : (zs.take len).length = len := by rw [List.length_take]; omega
      refine ⟨zs.take len, Or.inr ⟨b, off, cap, by rw [hcs, hlen], ?_, by omega, ?_, Nat.zero_le _, ?_⟩⟩
      · intro e; rw [e] at hlen; simp at hlen; omega
      · exact World.block_lt_of_cell? W _ (hcell 0 (by omega))
      · intro i hi
        have := hcell i (by omega)
        rw [add_plain] at this
        rw [this, List.getElem_take, List.getD_eq_getElem?_getD, List.getElem?_eq_getElem (by omega)]
        rfl

set_option maxRecDepth 100000 in
theorem open_ru0 {fuel : Nat} {cs : List Value} {x : DataW H × List MemPlace} (h : DataW.trod enc Tryz.prog W 0 (fun _ => true) true fuel 127 cs = some x) :
    ∃ (r : Ru) (vv : Value), cs = [vv, .string r.kd, .string r.tm, .string r.pf] ∧ IntsIn 0 W vv r.vb ∧ RuSize r := by
  obtain ⟨xs, n, _, _, hl, hlen, hfld⟩ := DataW.trod_struct Tryz.underlying127 h
  obtain ⟨c0, c1, c2, c3, rfl⟩ := list4 (hl.trans Tryz.cells127)
  simp only [Array.size, List.length_cons, List.length_nil] at hlen
  have g0 : DataW.trod enc Tryz.prog W 0 (fun _ => true) true n 51 ((([c0, c1, c2, c3] : List Value).drop 0).take (Tryz.prog.cellsOf 51)) = xs[0]? := hfld 0 _ rfl
  have g1 : DataW.trod enc Tryz.prog W 0 (fun _ => true) true n 9 ((([c0, c1, c2, c3] : List Value).drop 1).take (Tryz.prog.cellsOf 9)) = xs[1]? := hfld 1 _ rfl
  have g2 : DataW.trod enc Tryz.prog W 0 (fun _ => true) true n 9 ((([c0, c1, c2, c3] : List Value).drop 2).take (Tryz.prog.cellsOf 9)) = xs[2]? := hfld 2 _ rfl
  have g3 : DataW.trod enc Tryz.prog W 0 (fun _ => true) true n 9 ((([c0, c1, c2, c3] : List Value).drop 3).take (Tryz.prog.cellsOf 9)) = xs[3]? := hfld 3 _ rfl
  simp only [Tryz.cells9, Tryz.cells51, List.drop_succ_cons, List.drop_zero, List.take_succ_cons, List.take_zero] at g0 g1 g2 g3
  rw [List.getElem?_eq_getElem (by omega)] at g0 g1 g2 g3
  obtain ⟨L, hL⟩ := open_vbs g0
  obtain ⟨k, e1, _, s1⟩ := DataW.trod_string Tryz.underlying9 g1
  obtain ⟨t, e2, _, s2⟩ := DataW.trod_string Tryz.underlying9 g2
  obtain ⟨p, e3, _, s3⟩ := DataW.trod_string Tryz.underlying9 g3
  simp only [List.cons.injEq, and_true] at e1 e2 e3
  subst e1 e2 e3
  exact ⟨⟨L, k, t, p⟩, c0, rfl, hL, ⟨s1, s2, s3⟩⟩

end
end Go.Proofs.YtdeammfdkaomlaaGreat
