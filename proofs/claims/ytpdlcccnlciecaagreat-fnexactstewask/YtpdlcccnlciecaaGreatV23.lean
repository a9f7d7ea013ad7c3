import Derived.Test.YtpdlcccnlciecaaGreatV21
import Derived.Test.YtpdlcccnlciecaaGreatV22
namespace Go.Proofs.YtpdlcccnlciecaaGreat
open Go.RowKit Go.Deep

theorem getP_step {L : List Cp} {P : List Nat} {j : Nat} (h : j < P.length) (hc : P[j] < L.length) : getP L (P.take (j + 1)) = getP L (P.take j) ++ [L[P[j]]] := by
  rw [List.take_succ_eq_append_getElem h, getP_app]
  congr 1
  unfold getP
  simp [List.getElem?_eq_getElem hc]
theorem getP_ln (L : List Cp) (P : List Nat) : (getP L P).length ≤ P.length := List.length_filterMap_le _ _

set_option maxRecDepth 100000 in
set_option maxHeartbeats 8000000 in
theorem l16Ends_any (lo base : Nat) (sv cv bv lv : Value) (B : Sb) (P : List Nat) (w : World) (h : SbAt lo w sv cv bv B) (hp : IRow w base lv P) (hP : ∀ i ∈ P, i < B.cs.length) (hl : P.length ≤ 1000000) :
    Calls Tryz.prog 42 #[.agg #[.int .i64 B.now, sv, cv, bv], lv] w fun e w' => ∃ v, e = .returned v ∧ Below w.heap.size w w' ∧ ERow w' w.heap.size v ((getP B.cs P).map enOf) := by
  have HK := hide h
  have HP := hide hp
  have HM := hide hP
  obtain ⟨i1, hi1, hz1, hy1, hx1⟩ := info_parts Tryz.infoE
  have HI1 := hide (And.intro hi1 (And.intro hz1 (And.intro hy1 hx1)))
  obtain ⟨a0, k0, rfl⟩ := h.svs.form
  obtain ⟨a1, k1, rfl⟩ := h.cps.form
  obtain ⟨a2, k2, rfl⟩ := h.bes.form
  obtain ⟨a3, k3, rfl⟩ := hp.form
  clear h hi1 hz1 hy1 hx1 hp hP
  go_enter Tryz.func42, Tryz.ntmps42
  go_wp2_with fail
  generalize hWa : World.alloc (w.alloc _) _ = Wa
  have HB : Hid (Below w.heap.size w Wa) := by unfold Hid; rw [← hWa]; exact (one_al w _).alloc (by simp) _
  have F1 : Hid (Box Wa w.heap.size #[.int .i64 B.now, .slice a0 B.ss.length k0, .slice a1 B.cs.length k1, .slice a2 B.bs.length k2]) := by unfold Hid; rw [← hWa]; exact (Box.new _ _ _ _ rfl).on (one_al _ _)
  have OW : Hid (ERow Wa (w.heap.size + 1) (.slice (some ⟨w.heap.size + 1, 0, none⟩) 0 0) []) := by unfold Hid ERow; rw [← hWa]; exact ownsB_made _ _ _ _ (by simp) (Nat.le_refl _)
  have hsz : w.heap.size + 1 ≤ Wa.heap.size := by rw [← hWa]; simp
  clear hWa
  go_loopw [5, 6] (fun m i wr => ∃ j : Nat, i = .int .i64 j ∧ j ≤ P.length ∧ Below w.heap.size w wr ∧ w.heap.size + 1 ≤ wr.heap.size ∧ Box wr w.heap.size #[.int .i64 B.now, .slice a0 B.ss.length k0, .slice a1 B.cs.length k1, .slice a2 B.bs.length k2] ∧ ERow wr (w.heap.size + 1) m ((getP B.cs (P.take j)).map enOf)) (fun _ i _ => P.length - (intOf i).toNat)
  case atStart => exact ⟨0, rfl, by omega, HB.out, hsz, F1.out, OW.out⟩
  case round =>
    obtain ⟨j, rfl, hj, hb, hs2, hf, ho⟩ := hrel
    replace HB := hide hb
    replace F1 := hide hf
    replace OW := hide ho
    clear hb hf ho hsz
    by_cases hlt : j < P.length
    · obtain ⟨g, cap, hge, hg1, -, hgc0⟩ := HP.out.at hlt
      have hgc := (HB.out.cell (p := ⟨g, j, none⟩) hg1).trans hgc0
      clear hgc0
      injection hge with hga hgl hgk
      subst hga hgk
      have hcj : P[j] < B.cs.length := HM.out _ (List.getElem_mem hlt)
      obtain ⟨cb, co, rfl, hcb, -, hcc⟩ := HK.out.cps.full' (by omega)
      have hc := (hcc P[j] hcj).2.below HB.out hcb
      have c1 := hc.c1
      have c2 := hc.c2
      have HST := hide (getP_step hlt hcj)
      have hpl : ((getP B.cs (P.take j)).map enOf).length ≤ j := by rw [List.length_map]; exact Nat.le_trans (getP_ln _ _) (by simp; omega)
      clear hcc hc
      obtain ⟨c, hcq⟩ : ∃ c, c = B.cs[P[j]] := ⟨_, rfl⟩
      rw [← hcq] at c1 c2 HST
      clear hcq
      obtain ⟨q, hq⟩ : ∃ q, q = P[j] := ⟨_, rfl⟩
      rw [← hq] at c1 c2 hgc hcj
      clear hq hgl
      have i0 : (0 : Int) ≤ (j : Int) := by omega
      have i1' : (j : Int) < (P.length : Int) := by omega
      have q0 : (0 : Int) ≤ (q : Int) := by omega
      have q1' : (q : Int) < (B.cs.length : Int) := by omega
      have p2 := F1.out.cell 2
      simp at p2
      obtain ⟨E, hE⟩ : ∃ E, E = (getP B.cs (P.take j)).map enOf := ⟨_, rfl⟩
      have HEN : Hid ((getP B.cs (P.take (j + 1))).map enOf = E ++ [⟨c.nu, c.ve⟩]) := by unfold Hid; rw [HST.out, List.map_append, ← hE]; rfl
      rw [← hE] at OW hpl
      clear hE HST
      go_wp2
      obtain ⟨ma, mk, rfl⟩ := OW.out.form
      have hgw : g < w.heap.size + 1 := by omega
      refine Code.wp_mono NoPanic.imp ?_
      refine wp_region_held_drew (S := fun W => Below (w.heap.size + 1) wr W) (by kernel_rfl) ((Below.refl _ _).drew) (fun hHeld => ?_)
      refine wpAnyH_take (i := 0) (v := .slice ma E.length mk) rfl (by kernel_rfl) (by kernel_rfl) (by kernel_rfl) (fun _ _ _ h => h) (Or.inl ⟨by rfl, fun W hW => by go_simp⟩) hHeld ?_
      try simp only [Act.put, List.getElem_toArray, List.getElem_cons_zero, List.setIfInBounds_toArray, List.set_cons_zero, List.set_cons_succ]
      refine wpAnyH_take (i := 1) (v := .pointer (some ⟨w.heap.size, 2, none⟩)) rfl (by kernel_rfl) (by kernel_rfl) (by kernel_rfl) (fun _ _ _ h => h) (Or.inl ⟨by rfl, fun W hW => by go_simp⟩) hHeld ?_
      try simp only [Act.put, List.getElem_toArray, List.getElem_cons_succ, List.getElem_cons_zero, List.setIfInBounds_toArray, List.set_cons_zero, List.set_cons_succ]
      refine wpAnyH_take (i := 2) (v := .slice (some ⟨cb, co, none⟩) B.cs.length k1) rfl (by kernel_rfl) (by kernel_rfl) (by kernel_rfl) (fun _ _ _ h => h) (Or.inl ⟨by rfl, fun W hW => by have hf := (hW.cell (p := ⟨w.heap.size, 2, none⟩) (Nat.lt_succ_self _)).trans p2; go_simp⟩) hHeld ?_
      try simp only [Act.put, List.getElem_toArray, List.getElem_cons_succ, List.getElem_cons_zero, List.setIfInBounds_toArray, List.set_cons_zero, List.set_cons_succ]
      refine wpAnyH_take (i := 3) (v := .slice (some ⟨g, 0, none⟩) P.length k3) rfl (by kernel_rfl) (by kernel_rfl) (by kernel_rfl) (fun _ _ _ h => h) (Or.inl ⟨by rfl, fun W hW => by go_simp⟩) hHeld ?_
      try simp only [Act.put, List.getElem_toArray, List.getElem_cons_succ, List.getElem_cons_zero, List.setIfInBounds_toArray, List.set_cons_zero, List.set_cons_succ]
      refine wpAnyH_take (i := 4) (v := .int .i64 j) rfl (by kernel_rfl) (by kernel_rfl) (by kernel_rfl) (fun _ _ _ h => h) (Or.inl ⟨by rfl, fun W hW => by go_simp⟩) hHeld ?_
      try simp only [Act.put, List.getElem_toArray, List.getElem_cons_succ, List.getElem_cons_zero, List.setIfInBounds_toArray, List.set_cons_zero, List.set_cons_succ]
      refine wpAnyH_take (i := 5) (v := .pointer (some ⟨g, j, none⟩)) rfl (by kernel_rfl) (by kernel_rfl) (by kernel_rfl) (fun _ _ _ h => h) (Or.inl ⟨by rfl, fun W hW => by go_simp⟩) hHeld ?_
      try simp only [Act.put, List.getElem_toArray, List.getElem_cons_succ, List.getElem_cons_zero, List.setIfInBounds_toArray, List.set_cons_zero, List.set_cons_succ]
      refine wpAnyH_take (i := 6) (v := .int .i64 q) rfl (by kernel_rfl) (by kernel_rfl) (by kernel_rfl) (fun _ _ _ h => h) (Or.inl ⟨by rfl, fun W hW => by have hf := (hW.cell (p := ⟨g, j, none⟩) (by simp only []; omega)).trans hgc; go_simp⟩) hHeld ?_
      try simp only [Act.put, List.getElem_toArray, List.getElem_cons_succ, List.getElem_cons_zero, List.setIfInBounds_toArray, List.set_cons_zero, List.set_cons_succ]
      refine wpAnyH_take (i := 7) (v := .pointer (some ⟨cb, co + q * 7, none⟩)) rfl (by kernel_rfl) (by kernel_rfl) (by kernel_rfl) (fun _ _ _ h => h) (Or.inl ⟨by rfl, fun W hW => by go_simp⟩) hHeld ?_
      try simp only [Act.put, List.getElem_toArray, List.getElem_cons_succ, List.getElem_cons_zero, List.setIfInBounds_toArray, List.set_cons_zero, List.set_cons_succ]
      refine wpAnyH_take (i := 8) (v := .pointer (some ⟨cb, co + q * 7 + 1, none⟩)) rfl (by kernel_rfl) (by kernel_rfl) (by kernel_rfl) (fun _ _ _ h => h) (Or.inl ⟨by rfl, fun W hW => by go_simp⟩) hHeld ?_
      try simp only [Act.put, List.getElem_toArray, List.getElem_cons_succ, List.getElem_cons_zero, List.setIfInBounds_toArray, List.set_cons_zero, List.set_cons_succ]
      refine wpAnyH_take (i := 9) (v := .int .i64 c.nu) rfl (by kernel_rfl) (by kernel_rfl) (by kernel_rfl) (fun _ _ _ h => h) (Or.inl ⟨by rfl, fun W hW => by have hf := (hW.cell (p := ⟨cb, co + q * 7 + 1, none⟩) (by simp only []; omega)).trans c1; go_simp⟩) hHeld ?_
      try simp only [Act.put, List.getElem_toArray, List.getElem_cons_succ, List.getElem_cons_zero, List.setIfInBounds_toArray, List.set_cons_zero, List.set_cons_succ]
      refine wpAnyH_take (i := 10) (v := .pointer (some ⟨w.heap.size, 2, none⟩)) rfl (by kernel_rfl) (by kernel_rfl) (by kernel_rfl) (fun _ _ _ h => h) (Or.inl ⟨by rfl, fun W hW => by go_simp⟩) hHeld ?_
      try simp only [Act.put, List.getElem_toArray, List.getElem_cons_succ, List.getElem_cons_zero, List.setIfInBounds_toArray, List.set_cons_zero, List.set_cons_succ]
      refine wpAnyH_take (i := 11) (v := .slice (some ⟨cb, co, none⟩) B.cs.length k1) rfl (by kernel_rfl) (by kernel_rfl) (by kernel_rfl) (fun _ _ _ h => h) (Or.inl ⟨by rfl, fun W hW => by have hf := (hW.cell (p := ⟨w.heap.size, 2, none⟩) (Nat.lt_succ_self _)).trans p2; go_simp⟩) hHeld ?_
      try simp only [Act.put, List.getElem_toArray, List.getElem_cons_succ, List.getElem_cons_zero, List.setIfInBounds_toArray, List.set_cons_zero, List.set_cons_succ]
      refine wpAnyH_take (i := 12) (v := .slice (some ⟨g, 0, none⟩) P.length k3) rfl (by kernel_rfl) (by kernel_rfl) (by kernel_rfl) (fun _ _ _ h => h) (Or.inl ⟨by rfl, fun W hW => by go_simp⟩) hHeld ?_
      try simp only [Act.put, List.getElem_toArray, List.getElem_cons_succ, List.getElem_cons_zero, List.setIfInBounds_toArray, List.set_cons_zero, List.set_cons_succ]
      refine wpAnyH_take (i := 13) (v := .int .i64 j) rfl (by kernel_rfl) (by kernel_rfl) (by kernel_rfl) (fun _ _ _ h => h) (Or.inl ⟨by rfl, fun W hW => by go_simp⟩) hHeld ?_
      try simp only [Act.put, List.getElem_toArray, List.getElem_cons_succ, List.getElem_cons_zero, List.setIfInBounds_toArray, List.set_cons_zero, List.set_cons_succ]
      refine wpAnyH_take (i := 14) (v := .pointer (some ⟨g, j, none⟩)) rfl (by kernel_rfl) (by kernel_rfl) (by kernel_rfl) (fun _ _ _ h => h) (Or.inl ⟨by rfl, fun W hW => by go_simp⟩) hHeld ?_
      try simp only [Act.put, List.getElem_toArray, List.getElem_cons_succ, List.getElem_cons_zero, List.setIfInBounds_toArray, List.set_cons_zero, List.set_cons_succ]
      refine wpAnyH_take (i := 15) (v := .int .i64 q) rfl (by kernel_rfl) (by kernel_rfl) (by kernel_rfl) (fun _ _ _ h => h) (Or.inl ⟨by rfl, fun W hW => by have hf := (hW.cell (p := ⟨g, j, none⟩) (by simp only []; omega)).trans hgc; go_simp⟩) hHeld ?_
      try simp only [Act.put, List.getElem_toArray, List.getElem_cons_succ, List.getElem_cons_zero, List.setIfInBounds_toArray, List.set_cons_zero, List.set_cons_succ]
      refine wpAnyH_take (i := 16) (v := .pointer (some ⟨cb, co + q * 7, none⟩)) rfl (by kernel_rfl) (by kernel_rfl) (by kernel_rfl) (fun _ _ _ h => h) (Or.inl ⟨by rfl, fun W hW => by go_simp⟩) hHeld ?_
      try simp only [Act.put, List.getElem_toArray, List.getElem_cons_succ, List.getElem_cons_zero, List.setIfInBounds_toArray, List.set_cons_zero, List.set_cons_succ]
      refine wpAnyH_take (i := 17) (v := .pointer (some ⟨cb, co + q * 7 + 2, none⟩)) rfl (by kernel_rfl) (by kernel_rfl) (by kernel_rfl) (fun _ _ _ h => h) (Or.inl ⟨by rfl, fun W hW => by go_simp⟩) hHeld ?_
      try simp only [Act.put, List.getElem_toArray, List.getElem_cons_succ, List.getElem_cons_zero, List.setIfInBounds_toArray, List.set_cons_zero, List.set_cons_succ]
      refine wpAnyH_take (i := 18) (v := .int .i64 c.ve) rfl (by kernel_rfl) (by kernel_rfl) (by kernel_rfl) (fun _ _ _ h => h) (Or.inl ⟨by rfl, fun W hW => by have hf := (hW.cell (p := ⟨cb, co + q * 7 + 2, none⟩) (by simp only []; omega)).trans c2; go_simp⟩) hHeld ?_
      try simp only [Act.put, List.getElem_toArray, List.getElem_cons_succ, List.getElem_cons_zero, List.setIfInBounds_toArray, List.set_cons_zero, List.set_cons_succ]
      refine wpAnyH_take (i := 19) (v := .agg #[.int .i64 c.nu, .int .i64 c.ve]) rfl (by kernel_rfl) (by kernel_rfl) (by kernel_rfl) (fun _ _ _ h => h) (Or.inl ⟨by rfl, fun W hW => by go_simp⟩) hHeld ?_
      try simp only [Act.put, List.getElem_toArray, List.getElem_cons_succ, List.getElem_cons_zero, List.setIfInBounds_toArray, List.set_cons_zero, List.set_cons_succ]
      refine wpAnyH_ready (rs := [20]) (by kernel_rfl) (by simp) ?_
      refine AllReadyH.cons rfl (fun K hK => ?_) AllReadyH.nil
      go_simp
      refine hK.out _ _ (((one_al _ _).drew).mono (by omega)) (fun hHeld => ?_)
      clear hK K
      try simp only [Act.put, List.getElem_toArray, List.getElem_cons_succ, List.getElem_cons_zero, List.setIfInBounds_toArray, List.set_cons_zero, List.set_cons_succ]
      have HOW : Hid (∀ o, (wr.alloc o).drew.ownsRow (w.heap.size + 1) 113 2 (.slice ma E.length mk) E.length (flatV enL E)) := fun o => World.ownsRow.drew (ownsB_on (show wr.ownsRow _ _ _ _ _ _ from OW.out) (one_al _ o))
      have HNW : Hid (∀ t, ∀ ad, some (⟨wr.heap.size, 0, none⟩ : Addr) = some ad → ∀ j u, ([.int .i64 c.nu, .int .i64 c.ve] : List Value)[j]? = some u → (wr.alloc (.cells #[.int .i64 c.nu, .int .i64 c.ve] t)).drew.cell? (ad.add j) = some u) := fun t => cells_at (Box.new _ _ _ _ rfl).drew rfl
      refine wpAnyH_ready (rs := [21]) (by kernel_rfl) (by simp) ?_
      refine AllReadyH.cons rfl (fun K hK => ?_) AllReadyH.nil
      refine step_append_any (by rfl) (.tmp 14) (.tmp 34) 45 (by rfl) (w.heap.size + 1) 113 i1 (.agg #[.int .i64 0, .int .i64 0]) 2 16 Tryz.underlying45 HI1.out.1 HI1.out.2.1 HI1.out.2.2.1 HI1.out.2.2.2 (by rfl) (by decide) _ E.length (flatV enL E) (by rfl) (HOW.out _) (some ⟨wr.heap.size, 0, none⟩) 1 1 [.int .i64 c.nu, .int .i64 c.ve] (by rfl) (by rfl) (fun e => by cases e) (HNW.out _) (by intro u hu; simp only [List.mem_cons, List.not_mem_nil, or_false] at hu; rcases hu with rfl | rfl <;> rfl) (by unfold maxLen; omega) (by omega) (by simp; omega) ?_
      intro v' w4 hown4 hgrow4
      have HB4 : Hid (Below (w.heap.size + 1) wr w4) := (((one_al _ _).drew).mono (by omega)).trans (ownsB_grown (HOW.out _) hgrow4 (by simp; omega))
      have HO4 : Hid (ERow w4 (w.heap.size + 1) v' (E ++ [⟨c.nu, c.ve⟩])) := by
        unfold Hid ERow
        rw [flatV_app, List.length_append]
        exact hown4
      clear hown4 hgrow4 HOW HNW
      refine hK.out _ _ HB4.out (fun hHeld => ?_)
      clear hK K
      try simp only [Act.put, List.getElem_toArray, List.getElem_cons_succ, List.getElem_cons_zero, List.setIfInBounds_toArray, List.set_cons_zero, List.set_cons_succ]
      refine wpAnyH_take (i := 22) (v := v') rfl (by kernel_rfl) (by kernel_rfl) (by kernel_rfl) (fun _ _ _ h => h) (Or.inl ⟨by rfl, fun W hW => by go_simp⟩) hHeld ?_
      try simp only [Act.put, List.getElem_toArray, List.getElem_cons_succ, List.getElem_cons_zero, List.setIfInBounds_toArray, List.set_cons_zero, List.set_cons_succ]
      refine wpAnyH_done (by kernel_rfl) ?_ _
      try simp only [List.getElem_toArray, List.getElem_cons_succ, List.getElem_cons_zero]
      refine NoPanic.normal ?_
      have hz4 := HB4.out.size
      go_wp2
      go_roundw
      case rel => exact ⟨j + 1, by go_num, by omega, HB.out.trans (HB4.out.mono (by omega)), by omega, F1.out.below HB4.out (by omega), by rw [HEN.out]; exact HO4.out⟩
      case measure => simp [intOf]; omega
    · have hje : j = P.length := by omega
      subst hje
      rw [List.take_length] at OW
      go_wp2
      go_ret
      exact ⟨_, rfl, HB.out, OW.out.low (by omega)⟩
end Go.Proofs.YtpdlcccnlciecaaGreat
