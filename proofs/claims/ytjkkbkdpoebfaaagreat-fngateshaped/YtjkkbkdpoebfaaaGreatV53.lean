import Derived.Test.YtjkkbkdpoebfaaaGreatV48
import Derived.ProofKit
import Derived.ChangeSlices
import Derived.Deep.Strs
import Derived.OpenShut
namespace Go.Proofs.YtjkkbkdpoebfaaaGreat
open Go.ChangeShapes Go.WideShapes Go.ChangeAt Go.RowKit Go.Deep

theorem Tryz.own : ownKnob Tryz.prog.godebug = none := by kernel_rfl
theorem Tryz.laidOut : laidOutB Tryz.prog = true := by kernel_rfl
theorem Tryz.cells5 : Tryz.prog.cellsOf 5 = 1 := by kernel_rfl
section
variable {H : Type} {enc : TypeId × Value → H} {W : World}
set_option maxRecDepth 100000 in
theorem open_code {fuel : Nat} {c : Value} {x : DataW H × List MemPlace} (h : DataW.trod enc Tryz.prog W 0 (fun _ => true) true fuel 22 [c] = some x) : ∃ bs, CodeIn W c bs := by
  rcases Go.ChangeShapes.open_ints Tryz.underlying22 Tryz.underlying5 Tryz.cells5 h with ⟨hcs, _⟩ | ⟨a, len, cap, zs, hcs, _, hl, hm, hzs, _, hcell, hwf⟩
  · simp only [List.cons.injEq, and_true] at hcs
    exact ⟨[], Or.inl ⟨_, _, hcs, rfl⟩⟩
  · simp only [List.cons.injEq, and_true] at hcs
    simp only [if_true] at hzs
    by_cases h0 : len = 0
    · subst h0
      exact ⟨[], Or.inl ⟨_, _, hcs, rfl⟩⟩
    · obtain ⟨b, off, spot⟩ := a
      have hspot : spot = none := by simpa [Addr.add] using World.cell?_spot (hcell 0 (by omega))
      subst hspot
      have hlen : ((zs.take len).map fun n => UInt8.ofNat n.toNat).length = len := by simp; omega
      refine ⟨(zs.take len).map fun n => UInt8.ofNat n.toNat, Or.inr ⟨b, off, cap, by rw [hcs, hlen], ?_, by omega, by omega, ?_, ?_⟩⟩
      · intro e; rw [e] at hlen; simp at hlen; omega
      · exact World.block_lt_of_cell? W _ (hcell 0 (by omega))
      · intro i hi
        have hcj := hcell i (by omega)
        rw [add_plain] at hcj
        have hb := range_u8 hwf i
        rw [List.getElem?_eq_getElem (by omega), Option.getD_some] at hb
        rw [hcj, List.getD_eq_getElem?_getD, List.getElem?_eq_getElem (by omega)]
        simp only [List.getElem_map, List.getElem_take, Option.getD_some]
        congr 2
        simp only [UInt8.toNat_ofNat']
        omega
end
end Go.Proofs.YtjkkbkdpoebfaaaGreat
