import Derived.Test.YtpdlcccnlciecaaGreatV32
namespace Go.Proofs.YtpdlcccnlciecaaGreat
open Go.RowKit Go.Deep Go.Shelf

attribute [local go_sem] Oper.semAt_some

/-- copies of a sort -/
abbrev CpP (Pq : Cp → Prop) := { c : Cp // Pq c }
/-- a copy whose berth's name is a text that there can be -/
abbrev CpL := { c : Cp // c.be.size ≤ maxLen }
variable {Pq : Cp → Prop}
abbrev encL (y : CpP Pq) : Array Value := #[.agg #[.string y.1.se, .int .i64 y.1.nu, .int .i64 y.1.ve, .int .i64 y.1.im, .int .i64 y.1.st, .bool y.1.en, .string y.1.be]]
theorem takeL_next {L : List (CpP Pq)} {p k : Nat} (h : p + k < L.length) : (L.drop p).take (k + 1) = (L.drop p).take k ++ [L[p + k]] := by
  rw [List.take_succ_eq_append_getElem (by rw [List.length_drop]; omega), List.getElem_drop]
theorem takeL_len {L : List (CpP Pq)} {p k : Nat} (h : p + k ≤ L.length) : ((L.drop p).take k).length = k := by
  rw [List.length_take, List.length_drop]; omega
theorem subL {M : List (CpP Pq)} {s : ByteArray} {p k : Nat} (h : (M.map (·.1)).filter (mineB s) = ((M.map (·.1)).drop p).take k) : (M.filter fun y => mineB s y.1) = (M.drop p).take k := by
  rw [List.filter_map, ← List.map_drop, ← List.map_take] at h
  exact (List.map_inj_right fun a b e => Subtype.ext e).1 h

section
variable (lo : Nat) (now : Int) (sv cv bv : Value) (M : List (CpP Pq)) (s : ByteArray) (w : World)

set_option maxRecDepth 100000 in
set_option maxHeartbeats 8000000 in
theorem copies_sub (n : Nat) (hn : 1 ≤ n) (S : Nat → Prop) (w0 : World) (B1 B2 Bd : Nat) (hBd : w0.heap.size ≤ Bd) (L : List Cp) (hLM : L = M.map (·.1)) (h0 : Below w0.heap.size w0 w) (hL : CpsAt lo w0 cv L) (n1 : L.length ≤ 1048576) (hr : risR aheadB L = true) (hnu : ∀ i (h : i < L.length), 1 ≤ L[i].nu)
    (s0 : ∀ k, k < w0.heap.size → ¬ S k) (s2 : ¬ S B2)
    (hX1 : Box w B1 #[.int .i64 now, sv, cv, bv]) (hX2 : Box w B2 #[.string s]) (g0 : ∃ a n k, sv = .slice a n k) (g2 : ∃ a n k, bv = .slice a n k) :
    SeqStopsK Fence.wide n Tryz.prog 126 #[.pointer (some ⟨B1, 0, none⟩), .pointer (some ⟨B2, 0, none⟩)] encL (KeepsBut S Bd) (fun xs => xs = M.filter fun y => mineB s y.1) (fun _ => True) L.length w := by
  intro l J Jx W hW hJ hJx hY hJ0
  have HLn : Hid (L.length = M.length) := by unfold Hid; rw [hLM]; simp
  have HSUB : Hid (∀ p k, L.filter (mineB s) = (L.drop p).take k → (M.filter fun y => mineB s y.1) = (M.drop p).take k) := fun p k h => subL (by rw [← hLM]; exact h)
  have HAT : Hid (∀ i (h : i < L.length) (h' : i < M.length), L[i] = M[i].1) := fun i h h' => by subst hLM; simp
  clear hLM
  have HL := hide hL
  obtain ⟨ca, ccap, rfl⟩ := hL.form
  obtain ⟨a0, n0, k0, rfl⟩ := g0
  obtain ⟨a2, n2, k2, rfl⟩ := g2
  have H0 := hide (h0.trans (hW.mono h0.size))
  have HX1 := hide (hX1.below hW hX1.lt)
  have HX2 := hide (hX2.below hW hX2.lt)
  have hw : w.heap.size ≤ W.heap.size := hW.size
  have hw0 : w0.heap.size ≤ w.heap.size := h0.size
  have HJ := hide hJ
  have HY := hide hY
  have HR := hide hr
  have HNU := hide hnu
  have S0 := hide s0
  have S2 := hide s2
  have HJ0 := hide hJ0
  clear hL h0 hW hX1 hX2 hJ hJx hY hJ0 hr hnu s0 s2
  refine callsIn_of_wp Tryz.func126 rfl trivial ?_ rfl
  simp only [Tryz.ntmps126, List.size_toArray, List.length_cons, List.length_nil, Nat.reduceAdd, Nat.reduceSub, Array.replicate_succ, Array.replicate_zero, List.push_toArray, List.append_toArray, List.nil_append, List.cons_append]
  have o0 := HX1.out.cell 0
  have o1 := HX1.out.cell 1
  have o2 := HX1.out.cell 2
  have o3 := HX1.out.cell 3
  have q0 := HX2.out.cell 0
  simp at o0 o1 o2 o3 q0
  gi_wp2_with fail
  clear o0 o1 o3
  refine ⟨trivial, (callsIn_wide.2 (copyPlace_any lo now _ _ _ L s 0 W (HL.out.below H0.out) n1 HR.out ⟨_, _, _, rfl⟩ ⟨_, _, _, rfl⟩)).mono ?_⟩
  rintro e w1 ⟨⟨p, hsp, rfl⟩, hb1⟩
  have HSP := hide hsp
  have hp := hsp.le
  have HJ1 := hide (abides_below HJ.out HJ0.out hb1)
  have H1 := hide (bt H0.out hb1)
  have hw1 : w.heap.size ≤ w1.heap.size := Nat.le_trans hw hb1.size
  have o2 := (HX1.out.on hb1).cell 2
  have q0 := (HX2.out.on hb1).cell 0
  have qlt := (HX2.out.on hb1).lt
  simp at o2 q0
  clear hsp hb1 HX1 HX2 H0 HJ0
  by_cases hpl : p < L.length
  · have hcp : ¬ ccap = p := by
      rcases HL.out with ⟨_, _, _, h⟩ | ⟨_, _, cap, h, _, _, _, _, hc, _⟩
      · rw [h] at hpl; simp at hpl
      · injection h with _ _ h
        omega
    obtain ⟨b, off, rfl, hbw, -, hc⟩ := HL.out.full' (by omega)
    have HC := hide hc
    clear hc
    gi_wp2
    clear o2 hcp
    gi_loopw [19] (fun i wr => ∃ k : Nat, i = .int .i64 k ∧ p + k ≤ L.length ∧ J ((M.drop p).take k) wr ∧ Below w0.heap.size w0 wr ∧ wr.cell? ⟨B2, 0, none⟩ = some (.string s) ∧ B2 < wr.heap.size ∧ w.heap.size ≤ wr.heap.size ∧ (∀ i (h : i < L.length), p ≤ i → i < p + k → mineB s L[i] = true))
      (fun i _ => L.length - p - (intOf i).toNat)
    case atStart => exact ⟨0, rfl, by omega, HJ1.out, H1.out, q0, qlt, hw1, fun i _ h1 h2 => by omega⟩
    case round =>
      clear q0 qlt hw1
      obtain ⟨k, rfl, hk, hJk, hBk, q0, qlt, qw, hmi⟩ := hrel
      have HJK := hide hJk
      have HBK := hide hBk
      have HMI := hide hmi
      clear hJk hBk hmi HJ1 H1
      by_cases hlt : k < L.length - p
      · have hpk : p + k < L.length := by omega
        have hcc := (HC.out (p + k) hpk).2.below HBK.out hbw
        have ea : off + (p + k) * 7 = off + p * 7 + k * 7 := by omega
        rw [ea] at hcc
        obtain ⟨c0, c1, c2, c3, c4, c5, c6⟩ := hcc
        clear ea
        have hpm : p + k < M.length := by have := HLn.out; omega
        have hyy := HAT.out (p + k) hpk hpm
        obtain ⟨y, hy0⟩ : ∃ y, y = M[p + k] := ⟨_, rfl⟩
        have HTN := hide (takeL_next (L := M) (p := p) (k := k) hpm)
        rw [← hy0] at HTN hyy
        clear hy0
        rw [hyy] at c0 c1 c2 c3 c4 c5 c6
        have HYY := hide hyy
        clear hyy hpm
        obtain ⟨Wb, hWb, q0', HA, HAB, hzb⟩ : ∃ Wb, Wb = wr.alloc (.cells #[.string y.1.se, .int .i64 y.1.nu, .int .i64 y.1.ve, .int .i64 y.1.im, .int .i64 y.1.st, .bool y.1.en, .string y.1.be] 82) ∧ Wb.cell? ⟨B2, 0, none⟩ = some (.string s) ∧
            Hid (J ((M.drop p).take k) Wb) ∧ Hid (Below w0.heap.size w0 Wb) ∧ Wb.heap.size = wr.heap.size + 1 :=
          ⟨_, rfl, (cell_alloc_lt _ _ _ _ qlt).trans q0, abides_below HJ.out HJK.out (one_al _ _), HBK.out.trans ((one_al _ _).mono HBK.out.size), by simp⟩
        have q0b : ∀ o, (wr.alloc o).cell? ⟨B2, 0, none⟩ = some (.string s) := fun o => (cell_alloc_lt _ _ _ _ qlt).trans q0
        cases hm : (y.1.se.toList == s.toList) with
        | false =>
          have hm' : (y.1.se.toList != s.toList) = true := by simp only [bne, hm]; rfl
          have HE : Hid ((M.filter fun y => mineB s y.1) = (M.drop p).take k) := HSUB.out p k (run_all HSP.out HNU.out hk HMI.out (fun i hi hpi => by
            have hm0 : (L[p + k].se.toList == s.toList) = false := by rw [HYY.out]; exact hm
            by_cases e : i = p + k
            · subst e; exact hm0
            · exact mine_end HR.out HSP.out hpk (by omega) hm0 hi (by omega)))
          gi_wp2
          all_goals (refine ⟨fun _ h => (by cases h), ?_⟩; gi_wp2)
          rw [← hWb]
          refine bodyPost_ret (results_none rfl _ _ _) rfl ?_
          exact ⟨⟨_, rfl⟩, .inl ⟨_, HE.out.symm, HA.out⟩⟩
        | true =>
          have hm' : (y.1.se.toList != s.toList) = false := by simp only [bne, hm]; rfl
          have HM : Hid (mineB s L[p + k] = true) := by unfold Hid mineB; rw [HYY.out]; exact hm
          have hpl2 : ((M.drop p).take k).length < L.length := by have := HLn.out; rw [takeL_len (by omega)]; omega
          have HAw : Hid (J ((M.drop p).take k) (wr.alloc (.cells #[.string y.1.se, .int .i64 y.1.nu, .int .i64 y.1.ve, .int .i64 y.1.im, .int .i64 y.1.st, .bool y.1.en, .string y.1.be] 82))) := by unfold Hid; rw [← hWb]; exact HA.out
          obtain ⟨fn, tmps, assign, body, hy, hR⟩ := HY.out _ y _ HAw.out hpl2
          dsimp only [encL] at hy
          have HRn := hide hR
          clear hR hpl2
          gi_wp2
          refine HRn.out.mono ?_
          rw [← hWb]
          rintro e W3 (⟨rfl, hJ3, hk3⟩ | ⟨rfl, hJx3⟩)
          · have HJ3 := hide hJ3
            have r3 := hk3.cell q0' S2.out
            have rB : Hid (Below w0.heap.size w0 W3) := HAB.out.trans (hk3.below HAB.out.size S0.out hBd)
            have rz := hk3.size
            clear hk3 hJ3 hy
            gi_wp2
            go_roundw
            case rel => exact ⟨k + 1, by go_num, by omega, by rw [HTN.out]; exact HJ3.out, rB.out, r3, by omega, by omega, fun i hi h1 h2 => by
                          by_cases e : i = p + k
                          · subst e; exact HM.out
                          · exact HMI.out i hi h1 (by omega)⟩
            case measure => simp [intOf]; omega
          · have HX3 := hide hJx3
            clear hJx3 hy
            gi_wp2
            refine bodyPost_ret (results_none rfl _ _ _) rfl ?_
            exact ⟨⟨_, rfl⟩, .inr ⟨_, trivial, HX3.out⟩⟩
      · have HE : Hid ((M.filter fun y => mineB s y.1) = (M.drop p).take k) := HSUB.out p k (run_all HSP.out HNU.out hk HMI.out (fun i hi hpi => by omega))
        have hkl : k = L.length - p := by omega
        subst hkl
        gi_wp2
        go_end0
        exact ⟨⟨_, rfl⟩, .inl ⟨_, HE.out.symm, HJK.out⟩⟩
  · have hpe : L.length - p = 0 := by omega
    have HE : Hid ((M.filter fun y => mineB s y.1) = []) := by
      unfold Hid
      have := HSUB.out p 0 (run_all (k := 0) HSP.out HNU.out (by omega) (fun i _ h1 h2 => by omega) (fun i hi hpi => by omega))
      rw [this]
      rfl
    gi_wp2
    all_goals
      gi_loopw [19] (fun i wr => i = .int .i64 0 ∧ wr = w1) (fun _ _ => 0)
      case atStart => exact ⟨rfl, rfl⟩
      case round =>
        obtain ⟨rfl, rfl⟩ := hrel
        gi_wp2
        go_end0
        exact ⟨⟨_, rfl⟩, .inl ⟨_, HE.out.symm, HJ1.out⟩⟩
end
end Go.Proofs.YtpdlcccnlciecaaGreat
