import Derived.Test.YtemggnmooiaokaaGreatD48
namespace Go.Proofs.YtemggnmooiaokaaGreat
open Go.RowKit Go.Deep Go.Shelf

/-- a rank while the shares of one service are added -/
def rkA (q0 q1 q2 q3 q4 z0 z1 z2 z3 z4 : Int) : Nat → Array Value
  | 0 => r5 q0 q1 q2 q3 q4
  | 1 => r5 (q0 + z0) q1 q2 q3 q4
  | 2 => r5 (q0 + z0) (q1 + z1) q2 q3 q4
  | 3 => r5 (q0 + z0) (q1 + z1) (q2 + z2) q3 q4
  | 4 => r5 (q0 + z0) (q1 + z1) (q2 + z2) (q3 + z3) q4
  | _ => r5 (q0 + z0) (q1 + z1) (q2 + z2) (q3 + z3) (q4 + z4)

set_option maxRecDepth 100000 in
set_option maxHeartbeats 16000000 in
theorem rankIn_any (lo m : Nat) (sv cv bv : Value) (B : Sb) (w : World) (h : SbAt lo w sv cv bv B) (hx : IxAt w m B) (hv : validB B = true) :
    Calls Tryz.prog 58 #[.agg #[.int .i64 B.now, sv, cv, bv, .map (some m)]] w fun e w' => e = .returned (.agg (r5 (sumL sh0 B.ss) (sumL (sh1 B) B.ss) (sumL (sh2 B) B.ss) (sumL (sh3 B) B.ss) (sumL (sh4 B) B.ss))) ∧ Below w.heap.size w w' := by
  have HK := hide h
  have HX := hide hx
  have HV := hide hv
  obtain ⟨h8, h200, hsv⟩ := valid_s8 hv
  have HSV := hide hsv
  obtain ⟨a0, k0, rfl⟩ := h.svs.form
  obtain ⟨a1, k1, rfl⟩ := h.cps.form
  obtain ⟨a2, k2, rfl⟩ := h.bes.form
  clear h hx hv hsv
  go_enter Tryz.func58, Tryz.ntmps58
  go_wp2_with fail
  generalize hWa : World.alloc (World.alloc (w.alloc _) _) _ = Wa
  have HB : Hid (Below w.heap.size w Wa) := by unfold Hid; rw [← hWa]; exact ((one_al w _).alloc (by simp) _).alloc (by simp; omega) _
  have FX : Hid (Box Wa w.heap.size #[.int .i64 B.now, .slice a0 B.ss.length k0, .slice a1 B.cs.length k1, .slice a2 B.bs.length k2, .map (some m)]) := by unfold Hid; rw [← hWa]; exact ((Box.new _ _ _ _ rfl).on (one_al _ _)).on (one_al _ _)
  have FZ : Hid (Box Wa (w.heap.size + 1) (r5 0 0 0 0 0)) := by unfold Hid; rw [← hWa]; exact (Box.new _ _ _ _ (by simp)).on (one_al _ _)
  have FR : Hid (Box Wa (w.heap.size + 1 + 1) (r5 0 0 0 0 0)) := by unfold Hid; rw [← hWa]; exact Box.new _ _ _ _ (by simp)
  clear hWa
  go_loopw [12] (fun i wr => ∃ k : Nat, i = .int .i64 k ∧ k ≤ B.ss.length ∧ Below w.heap.size w wr ∧ Box wr w.heap.size #[.int .i64 B.now, .slice a0 B.ss.length k0, .slice a1 B.cs.length k1, .slice a2 B.bs.length k2, .map (some m)] ∧ Box wr (w.heap.size + 1) (r5 0 0 0 0 0) ∧ Box wr (w.heap.size + 1 + 1) (r5 (sumL sh0 (B.ss.take k)) (sumL (sh1 B) (B.ss.take k)) (sumL (sh2 B) (B.ss.take k)) (sumL (sh3 B) (B.ss.take k)) (sumL (sh4 B) (B.ss.take k)))) (fun i _ => B.ss.length - (intOf i).toNat)
  case atStart => exact ⟨0, rfl, Nat.zero_le _, HB.out, FX.out, FZ.out, by simpa [sumL] using FR.out⟩
  case round =>
    obtain ⟨k, rfl, hk, hb, hfx, hfz, hfr⟩ := hrel
    replace HB := hide hb
    replace FX := hide hfx
    replace FZ := hide hfz
    replace FR := hide hfr
    clear hb hfx hfz hfr
    by_cases hlt : k < B.ss.length
    · have hmem : B.ss[k] ∈ B.ss := List.getElem_mem hlt
      have T0 := hide (sum_take (f := sh0) hlt)
      have T1 := hide (sum_take (f := sh1 B) hlt)
      have T2 := hide (sum_take (f := sh2 B) hlt)
      have T3 := hide (sum_take (f := sh3 B) hlt)
      have T4 := hide (sum_take (f := sh4 B) hlt)
      have hwa := svB_wa (HSV.out _ hmem)
      have tl : (B.ss.take k).length ≤ 8 := by simp; omega
      have b0 := sum_bd (f := sh0) (K := 1000) (L := B.ss.take k) (fun x _ => sh0_bd x)
      have b1 := sum_bd (f := sh1 B) (K := 1000) (L := B.ss.take k) (fun x _ => sh1_bd h200 x)
      have b2 := sum_bd (f := sh2 B) (K := 1000) (L := B.ss.take k) (fun x hx => sh2_bd h200 (svB_wa (HSV.out _ (List.mem_of_mem_take hx))))
      have b3 := sum_bd (f := sh3 B) (K := 1000) (L := B.ss.take k) (fun x _ => sh3_bd h200 x)
      have b4 := sum_bd (f := sh4 B) (K := 1000) (L := B.ss.take k) (fun x _ => sh4_bd h200 x)
      obtain ⟨sb, so, rfl, hsb, -, hcc⟩ := HK.out.svs.full' (by omega)
      obtain ⟨c0, c1, c2, c3, c4, c5, c6, c7, c8, c9, c10, c11, c12⟩ := (hcc k hlt).2.below HB.out hsb
      clear hcc hmem
      obtain ⟨x, hx⟩ : ∃ x, x = B.ss[k] := ⟨_, rfl⟩
      rw [← hx] at c0 c1 c2 c3 c4 c5 c6 c7 c8 c9 c10 c11 c12 T0 T1 T2 T3 T4 hwa
      clear hx
      obtain ⟨q0, e0⟩ : ∃ q, q = sumL sh0 (B.ss.take k) := ⟨_, rfl⟩
      obtain ⟨q1, e1⟩ : ∃ q, q = sumL (sh1 B) (B.ss.take k) := ⟨_, rfl⟩
      obtain ⟨q2, e2⟩ : ∃ q, q = sumL (sh2 B) (B.ss.take k) := ⟨_, rfl⟩
      obtain ⟨q3, e3⟩ : ∃ q, q = sumL (sh3 B) (B.ss.take k) := ⟨_, rfl⟩
      obtain ⟨q4, e4⟩ : ∃ q, q = sumL (sh4 B) (B.ss.take k) := ⟨_, rfl⟩
      rw [← e0, ← e1, ← e2, ← e3, ← e4] at FR
      rw [← e0] at T0 b0
      rw [← e1] at T1 b1
      rw [← e2] at T2 b2
      rw [← e3] at T3 b3
      rw [← e4] at T4 b4
      clear e0 e1 e2 e3 e4
      have z0 := sh0_bd x
      have z1 := sh1_bd h200 x
      have z2 := sh2_bd h200 hwa
      have z3 := sh3_bd h200 x
      have z4 := sh4_bd h200 x
      replace b0 : (0 ≤ q0 ∧ q0 ≤ 8000) ∧ (0 ≤ sh0 x ∧ sh0 x ≤ 1000) := by omega
      replace b1 : (0 ≤ q1 ∧ q1 ≤ 8000) ∧ (0 ≤ sh1 B x ∧ sh1 B x ≤ 1000) := by omega
      replace b2 : (0 ≤ q2 ∧ q2 ≤ 8000) ∧ (0 ≤ sh2 B x ∧ sh2 B x ≤ 1000) := by omega
      replace b3 : (0 ≤ q3 ∧ q3 ≤ 8000) ∧ (0 ≤ sh3 B x ∧ sh3 B x ≤ 1000) := by omega
      replace b4 : (0 ≤ q4 ∧ q4 ≤ 8000) ∧ (0 ≤ sh4 B x ∧ sh4 B x ≤ 1000) := by omega
      clear tl z0 z1 z2 z3 z4
      have p1 := FX.out.cell 1
      have i0 : (0 : Int) ≤ (k : Int) := by omega
      have i1' : (k : Int) < (B.ss.length : Int) := by omega
      simp at p1
      have p : ∀ o i, (wr.alloc o).cell? ⟨w.heap.size, i, none⟩ = _ := fun o i => (FX.out.on (one_al _ o)).cell i
      go_wp2_with fail
      clear p p1 c0 c1 c2 c3 c4 c5 c6 c7 c8 c9 c10 c11 c12
      generalize hWb : wr.alloc _ = Wb
      have hbb : Below wr.heap.size wr Wb := by rw [← hWb]; exact one_al _ _
      have HB1 := hide (bt HB.out hbb)
      have FX1 := hide (FX.out.on hbb)
      have FZ1 := hide (FZ.out.on hbb)
      have FR1 := hide (FR.out.on hbb)
      clear hbb hWb HB FX FZ FR
      refine (lookAt_any lo m _ _ _ B x _ (HK.out.below HB1.out) (HX.out.below HB1.out) HV.out).mono ?_
      rintro e w2 ⟨lk, rfl, hlk, hb2⟩
      have HB2 := hide (bt HB1.out hb2)
      have FX2 := hide (FX1.out.on hb2)
      have FZ2 := hide (FZ1.out.on hb2)
      have FR2 := hide (FR1.out.on hb2)
      clear hb2 HB1 FX1 FZ1 FR1
      go_wp2_with fail
      refine (shares_any m _ _ _ B x (cx B x) _ lk _ hlk.out).mono ?_
      rintro e w3 ⟨βl, βs, βn, rfl, hsw, hb3, g1, g2, g3⟩
      have hz2 := FR2.out.lt
      dsimp only [shV]
      have HB3 := hide (bt HB2.out hb3)
      have FX3 := hide (FX2.out.on hb3)
      have FZ3 := hide (FZ2.out.on hb3)
      have FR3 := hide (FR2.out.on hb3)
      have HSW := hide hsw
      clear hb3 hsw HB2 FX2 FZ2 FR2
      go_wp2
      obtain ⟨wo, hwo⟩ : ∃ W, W = wr := ⟨_, rfl⟩
      subst hwo
      go_loopw [20] (fun i wq => ∃ j : Nat, i = .int .i64 j ∧ j ≤ 5 ∧ Below w.heap.size w wq ∧ Box wq w.heap.size #[.int .i64 B.now, .slice (some ⟨sb, so, none⟩) B.ss.length k0, .slice a1 B.cs.length k1, .slice a2 B.bs.length k2, .map (some m)] ∧ Box wq (w.heap.size + 1) (r5 0 0 0 0 0) ∧ Box wq (w.heap.size + 1 + 1) (rkA q0 q1 q2 q3 q4 (sh0 x) (sh1 B x) (sh2 B x) (sh3 B x) (sh4 B x) j) ∧ ShW wq lk x (cx B x) βl βs βn) (fun i _ => 5 - (intOf i).toNat)
      case atStart => exact ⟨0, rfl, Nat.zero_le _, HB3.out, FX3.out, FZ3.out, FR3.out, HSW.out⟩
      case round =>
        obtain ⟨j, rfl, hj, hbq, hfxq, hfzq, hfrq, hswq⟩ := hrel
        obtain ⟨wq, hwq⟩ : ∃ W, W = wr := ⟨_, rfl⟩
        subst hwq
        have HBq := hide hbq
        have FXq := hide hfxq
        have FZq := hide hfzq
        have FRq := hide hfrq
        have HSq := hide hswq
        clear hbq hfxq hfzq hfrq hswq HB3 FX3 FZ3 FR3 HSW
        have hjj : j = 0 ∨ j = 1 ∨ j = 2 ∨ j = 3 ∨ j = 4 ∨ j = 5 := by omega
        rcases hjj with rfl | rfl | rfl | rfl | rfl | rfl
        · have FR0 : Hid (Box wq (w.heap.size + 1 + 1) (r5 q0 q1 q2 q3 q4)) := FRq.out
          have hidx : ∀ u : World, (Instr.index 125 (.agg #[.func (.func 104) #[] #[.pointer (some ⟨βs, 0, none⟩)], .func (.func 105) #[] #[.pointer (some ⟨βs, 0, none⟩), .pointer (some ⟨βn, 0, none⟩)], .func (.func 106) #[] #[.pointer (some ⟨βs, 0, none⟩), .pointer (some ⟨βn, 0, none⟩)], .func (.func 107) #[] #[.pointer (some ⟨βl, 0, none⟩)], .func (.func 110) #[] #[.pointer (some ⟨βn, 0, none⟩)]]) (.int .i64 0)).run Tryz.prog u = .ok (.func (.func 104) #[] #[.pointer (some ⟨βs, 0, none⟩)]) u := fun u => by
            simp [Instr.index, go_sem, run_underlying Tryz.underlying125, Result.andThen]
          have HCALL : Hid (∀ W, Below wq.heap.size wq W → Calls Tryz.prog 104 #[.pointer (some ⟨βs, 0, none⟩)] W fun e w' => e = .returned (.int .i64 (sh0 x)) ∧ Below W.heap.size W w') := fun W hW => share1_any x W βs (HSq.out.s.on hW)
          have hv : IntKind.i64.wrap (q0 + sh0 x) = q0 + sh0 x := by rw [IntWalk.i64_left]; unfold wrap64; omega
          obtain ⟨z, hz⟩ : ∃ z, z = sh0 x := ⟨_, rfl⟩
          rw [← hz] at HCALL hv
          have HZ := hide hz
          clear hz
          go_wp2_with fail
          clear hidx
          refine wp_region_E (S := fun W => Below wq.heap.size wq W) 7 (by kernel_rfl) ((Below.refl _ _).drew) (fun hHeld => ?_)
          refine wpAnyE_take [1, 2, 5, 6, 7] (i := 0) (v := .int .i64 ((0 : Nat) : Int)) rfl (by kernel_rfl) (by kernel_rfl) (by kernel_rfl) (by kernel_rfl) (fun _ _ _ h => h) (Or.inl ⟨by rfl, fun W hW => by go_simp⟩) hHeld ?_
          try simp only [Act.put, List.getElem_toArray, List.getElem_cons_zero, List.setIfInBounds_toArray, List.set_cons_zero, List.set_cons_succ]
          refine wpAnyE_take [2, 5, 6, 7] (i := 1) (v := .pointer (some ⟨w.heap.size + 1 + 1, 0, none⟩)) rfl (by kernel_rfl) (by kernel_rfl) (by kernel_rfl) (by kernel_rfl) (fun _ _ _ h => h) (Or.inl ⟨by rfl, fun W hW => by go_simp⟩) hHeld ?_
          try simp only [Act.put, List.getElem_toArray, List.getElem_cons_succ, List.getElem_cons_zero, List.setIfInBounds_toArray, List.set_cons_zero, List.set_cons_succ]
          refine wpAnyE_take [5, 6, 7] (i := 2) (v := .int .i64 q0) rfl (by kernel_rfl) (by kernel_rfl) (by kernel_rfl) (by kernel_rfl) (fun _ _ _ h => h) (Or.inl ⟨by rfl, fun W hW => by have hm := (FR0.out.on hW).cell 0; simp at hm; go_simp⟩) hHeld ?_
          try simp only [Act.put, List.getElem_toArray, List.getElem_cons_succ, List.getElem_cons_zero, List.setIfInBounds_toArray, List.set_cons_zero, List.set_cons_succ]
          refine wpAnyE_take [4, 5, 6, 7] (i := 3) (v := .func (.func 104) #[] #[.pointer (some ⟨βs, 0, none⟩)]) rfl (by kernel_rfl) (by kernel_rfl) (by kernel_rfl) (by kernel_rfl) (fun _ _ _ h => h) (Or.inl ⟨by rfl, fun W hW => by go_simp⟩) hHeld ?_
          try simp only [Act.put, List.getElem_toArray, List.getElem_cons_succ, List.getElem_cons_zero, List.setIfInBounds_toArray, List.set_cons_zero, List.set_cons_succ]
          refine wpAnyE_one (i := 4) (by kernel_rfl) rfl (fun K0 hK => ?_)
          go_simp
          refine (HCALL.out _ ((Below.refl _ _).drew)).mono ?_
          rintro e w5 ⟨rfl, hb5⟩
          have HB5 : Hid (Below wq.heap.size wq w5) := bt ((Below.refl _ _).drew) hb5
          clear hHeld hb5
          refine hK.out _ _ (fun _ => HB5.out) (fun hHx => ?_)
          have hHeld := hHx (by decide)
          clear hK K0 hHx
          try simp only [Act.put, List.getElem_toArray, List.getElem_cons_succ, List.getElem_cons_zero, List.setIfInBounds_toArray, List.set_cons_zero, List.set_cons_succ]
          refine wpAnyE_take [6, 7] (i := 5) (v := .int .i64 (q0 + z)) rfl (by kernel_rfl) (by kernel_rfl) (by kernel_rfl) (by kernel_rfl) (fun _ _ _ h => h) (Or.inl ⟨by rfl, fun W hW => by go_simp⟩) hHeld ?_
          try simp only [Act.put, List.getElem_toArray, List.getElem_cons_succ, List.getElem_cons_zero, List.setIfInBounds_toArray, List.set_cons_zero, List.set_cons_succ]
          refine wpAnyE_take [7] (i := 6) (v := .pointer (some ⟨w.heap.size + 1 + 1, 0, none⟩)) rfl (by kernel_rfl) (by kernel_rfl) (by kernel_rfl) (by kernel_rfl) (fun _ _ _ h => h) (Or.inl ⟨by rfl, fun W hW => by go_simp⟩) hHeld ?_
          try simp only [Act.put, List.getElem_toArray, List.getElem_cons_succ, List.getElem_cons_zero, List.setIfInBounds_toArray, List.set_cons_zero, List.set_cons_succ]
          refine wpAnyE_one (i := 7) (by kernel_rfl) rfl (fun K0 hK => ?_)
          have FR5 := hide (FR0.out.on HB5.out)
          have m5 := FR5.out.cell 0
          have f5 := FR5.out.free 0
          simp at m5
          go_simp
          refine hK.out _ _ (fun h => absurd rfl h) (fun _ => ?_)
          clear hK K0 hHeld m5 f5
          try simp only [Act.put, List.getElem_toArray, List.getElem_cons_succ, List.getElem_cons_zero, List.setIfInBounds_toArray, List.set_cons_zero, List.set_cons_succ]
          refine wpAnyE_done (by kernel_rfl) ?_ _
          have HT : Hid (Touch (w.heap.size + 1 + 1) (w.heap.size + 1 + 1 + 1) wq (w5.setCell ⟨w.heap.size + 1 + 1, 0, none⟩ (.int .i64 (q0 + z)))) := (Touch.below HB5.out).trans (Touch.setB _ _ _ _)
          have HBx : Hid (Box (w5.setCell ⟨w.heap.size + 1 + 1, 0, none⟩ (.int .i64 (q0 + z))) (w.heap.size + 1 + 1) (rkA q0 q1 q2 q3 q4 (sh0 x) (sh1 B x) (sh2 B x) (sh3 B x) (sh4 B x) (0 + 1))) := by
            unfold Hid
            rw [HZ.out]
            exact FR5.out.set (k := 0) (.int .i64 (q0 + sh0 x)) (by simp)
          generalize w5.setCell _ _ = w6 at *
          clear FR5 HB5 FR0
          have hs6 := HT.out.size
          have hq6 := FRq.out.lt
          go_wp2
          exact ⟨⟨0 + 1, rfl, by omega, HBq.out.trans ((HT.out.under (by omega)).mono (by omega)), FXq.out.tch HT.out (by omega), FZq.out.tch HT.out (by omega), HBx.out, HSq.out.tch HT.out (by omega) (by omega) (by omega)⟩, by decide⟩
        · have FR0 : Hid (Box wq (w.heap.size + 1 + 1) (r5 (q0 + sh0 x) q1 q2 q3 q4)) := FRq.out
          have hidx : ∀ u : World, (Instr.index 125 (.agg #[.func (.func 104) #[] #[.pointer (some ⟨βs, 0, none⟩)], .func (.func 105) #[] #[.pointer (some ⟨βs, 0, none⟩), .pointer (some ⟨βn, 0, none⟩)], .func (.func 106) #[] #[.pointer (some ⟨βs, 0, none⟩), .pointer (some ⟨βn, 0, none⟩)], .func (.func 107) #[] #[.pointer (some ⟨βl, 0, none⟩)], .func (.func 110) #[] #[.pointer (some ⟨βn, 0, none⟩)]]) (.int .i64 1)).run Tryz.prog u = .ok (.func (.func 105) #[] #[.pointer (some ⟨βs, 0, none⟩), .pointer (some ⟨βn, 0, none⟩)]) u := fun u => by
            simp [Instr.index, go_sem, run_underlying Tryz.underlying125, Result.andThen]
          have HCALL : Hid (∀ W, Below wq.heap.size wq W → Calls Tryz.prog 105 #[.pointer (some ⟨βs, 0, none⟩), .pointer (some ⟨βn, 0, none⟩)] W fun e w' => e = .returned (.int .i64 (sh1 B x)) ∧ Below W.heap.size W w') := fun W hW => share2_any x (cx B x) W βs βn (HSq.out.s.on hW) (HSq.out.c.on hW) (by have := ct_len (endB x.nm) B.cs; unfold cx ctL; simp only []; omega) (by have := ct_len (liveB x.nm) B.cs; unfold cx ctL; simp only []; omega)
          have hv : IntKind.i64.wrap (q1 + sh1 B x) = q1 + sh1 B x := by rw [IntWalk.i64_left]; unfold wrap64; omega
          obtain ⟨z, hz⟩ : ∃ z, z = sh1 B x := ⟨_, rfl⟩
          rw [← hz] at HCALL hv
          have HZ := hide hz
          clear hz
          go_wp2_with fail
          clear hidx
          refine wp_region_E (S := fun W => Below wq.heap.size wq W) 7 (by kernel_rfl) ((Below.refl _ _).drew) (fun hHeld => ?_)
          refine wpAnyE_take [1, 2, 5, 6, 7] (i := 0) (v := .int .i64 ((1 : Nat) : Int)) rfl (by kernel_rfl) (by kernel_rfl) (by kernel_rfl) (by kernel_rfl) (fun _ _ _ h => h) (Or.inl ⟨by rfl, fun W hW => by go_simp⟩) hHeld ?_
          try simp only [Act.put, List.getElem_toArray, List.getElem_cons_zero, List.setIfInBounds_toArray, List.set_cons_zero, List.set_cons_succ]
          refine wpAnyE_take [2, 5, 6, 7] (i := 1) (v := .pointer (some ⟨w.heap.size + 1 + 1, 1, none⟩)) rfl (by kernel_rfl) (by kernel_rfl) (by kernel_rfl) (by kernel_rfl) (fun _ _ _ h => h) (Or.inl ⟨by rfl, fun W hW => by go_simp⟩) hHeld ?_
          try simp only [Act.put, List.getElem_toArray, List.getElem_cons_succ, List.getElem_cons_zero, List.setIfInBounds_toArray, List.set_cons_zero, List.set_cons_succ]
          refine wpAnyE_take [5, 6, 7] (i := 2) (v := .int .i64 q1) rfl (by kernel_rfl) (by kernel_rfl) (by kernel_rfl) (by kernel_rfl) (fun _ _ _ h => h) (Or.inl ⟨by rfl, fun W hW => by have hm := (FR0.out.on hW).cell 1; simp at hm; go_simp⟩) hHeld ?_
          try simp only [Act.put, List.getElem_toArray, List.getElem_cons_succ, List.getElem_cons_zero, List.setIfInBounds_toArray, List.set_cons_zero, List.set_cons_succ]
          refine wpAnyE_take [4, 5, 6, 7] (i := 3) (v := .func (.func 105) #[] #[.pointer (some ⟨βs, 0, none⟩), .pointer (some ⟨βn, 0, none⟩)]) rfl (by kernel_rfl) (by kernel_rfl) (by kernel_rfl) (by kernel_rfl) (fun _ _ _ h => h) (Or.inl ⟨by rfl, fun W hW => by go_simp⟩) hHeld ?_
          try simp only [Act.put, List.getElem_toArray, List.getElem_cons_succ, List.getElem_cons_zero, List.setIfInBounds_toArray, List.set_cons_zero, List.set_cons_succ]
          refine wpAnyE_one (i := 4) (by kernel_rfl) rfl (fun K0 hK => ?_)
          go_simp
          refine (HCALL.out _ ((Below.refl _ _).drew)).mono ?_
          rintro e w5 ⟨rfl, hb5⟩
          have HB5 : Hid (Below wq.heap.size wq w5) := bt ((Below.refl _ _).drew) hb5
          clear hHeld hb5
          refine hK.out _ _ (fun _ => HB5.out) (fun hHx => ?_)
          have hHeld := hHx (by decide)
          clear hK K0 hHx
          try simp only [Act.put, List.getElem_toArray, List.getElem_cons_succ, List.getElem_cons_zero, List.setIfInBounds_toArray, List.set_cons_zero, List.set_cons_succ]
          refine wpAnyE_take [6, 7] (i := 5) (v := .int .i64 (q1 + z)) rfl (by kernel_rfl) (by kernel_rfl) (by kernel_rfl) (by kernel_rfl) (fun _ _ _ h => h) (Or.inl ⟨by rfl, fun W hW => by go_simp⟩) hHeld ?_
          try simp only [Act.put, List.getElem_toArray, List.getElem_cons_succ, List.getElem_cons_zero, List.setIfInBounds_toArray, List.set_cons_zero, List.set_cons_succ]
          refine wpAnyE_take [7] (i := 6) (v := .pointer (some ⟨w.heap.size + 1 + 1, 1, none⟩)) rfl (by kernel_rfl) (by kernel_rfl) (by kernel_rfl) (by kernel_rfl) (fun _ _ _ h => h) (Or.inl ⟨by rfl, fun W hW => by go_simp⟩) hHeld ?_
          try simp only [Act.put, List.getElem_toArray, List.getElem_cons_succ, List.getElem_cons_zero, List.setIfInBounds_toArray, List.set_cons_zero, List.set_cons_succ]
          refine wpAnyE_one (i := 7) (by kernel_rfl) rfl (fun K0 hK => ?_)
          have FR5 := hide (FR0.out.on HB5.out)
          have m5 := FR5.out.cell 1
          have f5 := FR5.out.free 1
          simp at m5
          go_simp
          refine hK.out _ _ (fun h => absurd rfl h) (fun _ => ?_)
          clear hK K0 hHeld m5 f5
          try simp only [Act.put, List.getElem_toArray, List.getElem_cons_succ, List.getElem_cons_zero, List.setIfInBounds_toArray, List.set_cons_zero, List.set_cons_succ]
          refine wpAnyE_done (by kernel_rfl) ?_ _
          have HT : Hid (Touch (w.heap.size + 1 + 1) (w.heap.size + 1 + 1 + 1) wq (w5.setCell ⟨w.heap.size + 1 + 1, 1, none⟩ (.int .i64 (q1 + z)))) := (Touch.below HB5.out).trans (Touch.setB _ _ _ _)
          have HBx : Hid (Box (w5.setCell ⟨w.heap.size + 1 + 1, 1, none⟩ (.int .i64 (q1 + z))) (w.heap.size + 1 + 1) (rkA q0 q1 q2 q3 q4 (sh0 x) (sh1 B x) (sh2 B x) (sh3 B x) (sh4 B x) (1 + 1))) := by
            unfold Hid
            rw [HZ.out]
            exact FR5.out.set (k := 1) (.int .i64 (q1 + sh1 B x)) (by simp)
          generalize w5.setCell _ _ = w6 at *
          clear FR5 HB5 FR0
          have hs6 := HT.out.size
          have hq6 := FRq.out.lt
          go_wp2
          exact ⟨⟨1 + 1, rfl, by omega, HBq.out.trans ((HT.out.under (by omega)).mono (by omega)), FXq.out.tch HT.out (by omega), FZq.out.tch HT.out (by omega), HBx.out, HSq.out.tch HT.out (by omega) (by omega) (by omega)⟩, by decide⟩
        · have FR0 : Hid (Box wq (w.heap.size + 1 + 1) (r5 (q0 + sh0 x) (q1 + sh1 B x) q2 q3 q4)) := FRq.out
          have hidx : ∀ u : World, (Instr.index 125 (.agg #[.func (.func 104) #[] #[.pointer (some ⟨βs, 0, none⟩)], .func (.func 105) #[] #[.pointer (some ⟨βs, 0, none⟩), .pointer (some ⟨βn, 0, none⟩)], .func (.func 106) #[] #[.pointer (some ⟨βs, 0, none⟩), .pointer (some ⟨βn, 0, none⟩)], .func (.func 107) #[] #[.pointer (some ⟨βl, 0, none⟩)], .func (.func 110) #[] #[.pointer (some ⟨βn, 0, none⟩)]]) (.int .i64 2)).run Tryz.prog u = .ok (.func (.func 106) #[] #[.pointer (some ⟨βs, 0, none⟩), .pointer (some ⟨βn, 0, none⟩)]) u := fun u => by
            simp [Instr.index, go_sem, run_underlying Tryz.underlying125, Result.andThen]
          have HCALL : Hid (∀ W, Below wq.heap.size wq W → Calls Tryz.prog 106 #[.pointer (some ⟨βs, 0, none⟩), .pointer (some ⟨βn, 0, none⟩)] W fun e w' => e = .returned (.int .i64 (sh2 B x)) ∧ Below W.heap.size W w') := fun W hW => share3_any x (cx B x) W βs βn (HSq.out.s.on hW) (HSq.out.c.on hW) hwa (by have := ct_len (liveB x.nm) B.cs; unfold cx ctL; simp only []; omega)
          have hv : IntKind.i64.wrap (q2 + sh2 B x) = q2 + sh2 B x := by rw [IntWalk.i64_left]; unfold wrap64; omega
          obtain ⟨z, hz⟩ : ∃ z, z = sh2 B x := ⟨_, rfl⟩
          rw [← hz] at HCALL hv
          have HZ := hide hz
          clear hz
          go_wp2_with fail
          clear hidx
          refine wp_region_E (S := fun W => Below wq.heap.size wq W) 7 (by kernel_rfl) ((Below.refl _ _).drew) (fun hHeld => ?_)
          refine wpAnyE_take [1, 2, 5, 6, 7] (i := 0) (v := .int .i64 ((2 : Nat) : Int)) rfl (by kernel_rfl) (by kernel_rfl) (by kernel_rfl) (by kernel_rfl) (fun _ _ _ h => h) (Or.inl ⟨by rfl, fun W hW => by go_simp⟩) hHeld ?_
          try simp only [Act.put, List.getElem_toArray, List.getElem_cons_zero, List.setIfInBounds_toArray, List.set_cons_zero, List.set_cons_succ]
          refine wpAnyE_take [2, 5, 6, 7] (i := 1) (v := .pointer (some ⟨w.heap.size + 1 + 1, 2, none⟩)) rfl (by kernel_rfl) (by kernel_rfl) (by kernel_rfl) (by kernel_rfl) (fun _ _ _ h => h) (Or.inl ⟨by rfl, fun W hW => by go_simp⟩) hHeld ?_
          try simp only [Act.put, List.getElem_toArray, List.getElem_cons_succ, List.getElem_cons_zero, List.setIfInBounds_toArray, List.set_cons_zero, List.set_cons_succ]
          refine wpAnyE_take [5, 6, 7] (i := 2) (v := .int .i64 q2) rfl (by kernel_rfl) (by kernel_rfl) (by kernel_rfl) (by kernel_rfl) (fun _ _ _ h => h) (Or.inl ⟨by rfl, fun W hW => by have hm := (FR0.out.on hW).cell 2; simp at hm; go_simp⟩) hHeld ?_
          try simp only [Act.put, List.getElem_toArray, List.getElem_cons_succ, List.getElem_cons_zero, List.setIfInBounds_toArray, List.set_cons_zero, List.set_cons_succ]
          refine wpAnyE_take [4, 5, 6, 7] (i := 3) (v := .func (.func 106) #[] #[.pointer (some ⟨βs, 0, none⟩), .pointer (some ⟨βn, 0, none⟩)]) rfl (by kernel_rfl) (by kernel_rfl) (by kernel_rfl) (by kernel_rfl) (fun _ _ _ h => h) (Or.inl ⟨by rfl, fun W hW => by go_simp⟩) hHeld ?_
          try simp only [Act.put, List.getElem_toArray, List.getElem_cons_succ, List.getElem_cons_zero, List.setIfInBounds_toArray, List.set_cons_zero, List.set_cons_succ]
          refine wpAnyE_one (i := 4) (by kernel_rfl) rfl (fun K0 hK => ?_)
          go_simp
          refine (HCALL.out _ ((Below.refl _ _).drew)).mono ?_
          rintro e w5 ⟨rfl, hb5⟩
          have HB5 : Hid (Below wq.heap.size wq w5) := bt ((Below.refl _ _).drew) hb5
          clear hHeld hb5
          refine hK.out _ _ (fun _ => HB5.out) (fun hHx => ?_)
          have hHeld := hHx (by decide)
          clear hK K0 hHx
          try simp only [Act.put, List.getElem_toArray, List.getElem_cons_succ, List.getElem_cons_zero, List.setIfInBounds_toArray, List.set_cons_zero, List.set_cons_succ]
          refine wpAnyE_take [6, 7] (i := 5) (v := .int .i64 (q2 + z)) rfl (by kernel_rfl) (by kernel_rfl) (by kernel_rfl) (by kernel_rfl) (fun _ _ _ h => h) (Or.inl ⟨by rfl, fun W hW => by go_simp⟩) hHeld ?_
          try simp only [Act.put, List.getElem_toArray, List.getElem_cons_succ, List.getElem_cons_zero, List.setIfInBounds_toArray, List.set_cons_zero, List.set_cons_succ]
          refine wpAnyE_take [7] (i := 6) (v := .pointer (some ⟨w.heap.size + 1 + 1, 2, none⟩)) rfl (by kernel_rfl) (by kernel_rfl) (by kernel_rfl) (by kernel_rfl) (fun _ _ _ h => h) (Or.inl ⟨by rfl, fun W hW => by go_simp⟩) hHeld ?_
          try simp only [Act.put, List.getElem_toArray, List.getElem_cons_succ, List.getElem_cons_zero, List.setIfInBounds_toArray, List.set_cons_zero, List.set_cons_succ]
          refine wpAnyE_one (i := 7) (by kernel_rfl) rfl (fun K0 hK => ?_)
          have FR5 := hide (FR0.out.on HB5.out)
          have m5 := FR5.out.cell 2
          have f5 := FR5.out.free 2
          simp at m5
          go_simp
          refine hK.out _ _ (fun h => absurd rfl h) (fun _ => ?_)
          clear hK K0 hHeld m5 f5
          try simp only [Act.put, List.getElem_toArray, List.getElem_cons_succ, List.getElem_cons_zero, List.setIfInBounds_toArray, List.set_cons_zero, List.set_cons_succ]
          refine wpAnyE_done (by kernel_rfl) ?_ _
          have HT : Hid (Touch (w.heap.size + 1 + 1) (w.heap.size + 1 + 1 + 1) wq (w5.setCell ⟨w.heap.size + 1 + 1, 2, none⟩ (.int .i64 (q2 + z)))) := (Touch.below HB5.out).trans (Touch.setB _ _ _ _)
          have HBx : Hid (Box (w5.setCell ⟨w.heap.size + 1 + 1, 2, none⟩ (.int .i64 (q2 + z))) (w.heap.size + 1 + 1) (rkA q0 q1 q2 q3 q4 (sh0 x) (sh1 B x) (sh2 B x) (sh3 B x) (sh4 B x) (2 + 1))) := by
            unfold Hid
            rw [HZ.out]
            exact FR5.out.set (k := 2) (.int .i64 (q2 + sh2 B x)) (by simp)
          generalize w5.setCell _ _ = w6 at *
          clear FR5 HB5 FR0
          have hs6 := HT.out.size
          have hq6 := FRq.out.lt
          go_wp2
          exact ⟨⟨2 + 1, rfl, by omega, HBq.out.trans ((HT.out.under (by omega)).mono (by omega)), FXq.out.tch HT.out (by omega), FZq.out.tch HT.out (by omega), HBx.out, HSq.out.tch HT.out (by omega) (by omega) (by omega)⟩, by decide⟩
        · have FR0 : Hid (Box wq (w.heap.size + 1 + 1) (r5 (q0 + sh0 x) (q1 + sh1 B x) (q2 + sh2 B x) q3 q4)) := FRq.out
          have hidx : ∀ u : World, (Instr.index 125 (.agg #[.func (.func 104) #[] #[.pointer (some ⟨βs, 0, none⟩)], .func (.func 105) #[] #[.pointer (some ⟨βs, 0, none⟩), .pointer (some ⟨βn, 0, none⟩)], .func (.func 106) #[] #[.pointer (some ⟨βs, 0, none⟩), .pointer (some ⟨βn, 0, none⟩)], .func (.func 107) #[] #[.pointer (some ⟨βl, 0, none⟩)], .func (.func 110) #[] #[.pointer (some ⟨βn, 0, none⟩)]]) (.int .i64 3)).run Tryz.prog u = .ok (.func (.func 107) #[] #[.pointer (some ⟨βl, 0, none⟩)]) u := fun u => by
            simp [Instr.index, go_sem, run_underlying Tryz.underlying125, Result.andThen]
          have HCALL : Hid (∀ W, Below wq.heap.size wq W → Calls Tryz.prog 107 #[.pointer (some ⟨βl, 0, none⟩)] W fun e w' => e = .returned (.int .i64 (sh3 B x)) ∧ Below W.heap.size W w') := fun W hW => share4_any lo m _ _ _ B x (cx B x) _ lk w W βl (HSq.out.l.on hW) hlk.out HK.out HX.out HV.out (bt HBq.out hW)
          have hv : IntKind.i64.wrap (q3 + sh3 B x) = q3 + sh3 B x := by rw [IntWalk.i64_left]; unfold wrap64; omega
          obtain ⟨z, hz⟩ : ∃ z, z = sh3 B x := ⟨_, rfl⟩
          rw [← hz] at HCALL hv
          have HZ := hide hz
          clear hz
          go_wp2_with fail
          clear hidx
          refine wp_region_E (S := fun W => Below wq.heap.size wq W) 7 (by kernel_rfl) ((Below.refl _ _).drew) (fun hHeld => ?_)
          refine wpAnyE_take [1, 2, 5, 6, 7] (i := 0) (v := .int .i64 ((3 : Nat) : Int)) rfl (by kernel_rfl) (by kernel_rfl) (by kernel_rfl) (by kernel_rfl) (fun _ _ _ h => h) (Or.inl ⟨by rfl, fun W hW => by go_simp⟩) hHeld ?_
          try simp only [Act.put, List.getElem_toArray, List.getElem_cons_zero, List.setIfInBounds_toArray, List.set_cons_zero, List.set_cons_succ]
          refine wpAnyE_take [2, 5, 6, 7] (i := 1) (v := .pointer (some ⟨w.heap.size + 1 + 1, 3, none⟩)) rfl (by kernel_rfl) (by kernel_rfl) (by kernel_rfl) (by kernel_rfl) (fun _ _ _ h => h) (Or.inl ⟨by rfl, fun W hW => by go_simp⟩) hHeld ?_
          try simp only [Act.put, List.getElem_toArray, List.getElem_cons_succ, List.getElem_cons_zero, List.setIfInBounds_toArray, List.set_cons_zero, List.set_cons_succ]
          refine wpAnyE_take [5, 6, 7] (i := 2) (v := .int .i64 q3) rfl (by kernel_rfl) (by kernel_rfl) (by kernel_rfl) (by kernel_rfl) (fun _ _ _ h => h) (Or.inl ⟨by rfl, fun W hW => by have hm := (FR0.out.on hW).cell 3; simp at hm; go_simp⟩) hHeld ?_
          try simp only [Act.put, List.getElem_toArray, List.getElem_cons_succ, List.getElem_cons_zero, List.setIfInBounds_toArray, List.set_cons_zero, List.set_cons_succ]
          refine wpAnyE_take [4, 5, 6, 7] (i := 3) (v := .func (.func 107) #[] #[.pointer (some ⟨βl, 0, none⟩)]) rfl (by kernel_rfl) (by kernel_rfl) (by kernel_rfl) (by kernel_rfl) (fun _ _ _ h => h) (Or.inl ⟨by rfl, fun W hW => by go_simp⟩) hHeld ?_
          try simp only [Act.put, List.getElem_toArray, List.getElem_cons_succ, List.getElem_cons_zero, List.setIfInBounds_toArray, List.set_cons_zero, List.set_cons_succ]
          refine wpAnyE_one (i := 4) (by kernel_rfl) rfl (fun K0 hK => ?_)
          go_simp
          refine (HCALL.out _ ((Below.refl _ _).drew)).mono ?_
          rintro e w5 ⟨rfl, hb5⟩
          have HB5 : Hid (Below wq.heap.size wq w5) := bt ((Below.refl _ _).drew) hb5
          clear hHeld hb5
          refine hK.out _ _ (fun _ => HB5.out) (fun hHx => ?_)
          have hHeld := hHx (by decide)
          clear hK K0 hHx
          try simp only [Act.put, List.getElem_toArray, List.getElem_cons_succ, List.getElem_cons_zero, List.setIfInBounds_toArray, List.set_cons_zero, List.set_cons_succ]
          refine wpAnyE_take [6, 7] (i := 5) (v := .int .i64 (q3 + z)) rfl (by kernel_rfl) (by kernel_rfl) (by kernel_rfl) (by kernel_rfl) (fun _ _ _ h => h) (Or.inl ⟨by rfl, fun W hW => by go_simp⟩) hHeld ?_
          try simp only [Act.put, List.getElem_toArray, List.getElem_cons_succ, List.getElem_cons_zero, List.setIfInBounds_toArray, List.set_cons_zero, List.set_cons_succ]
          refine wpAnyE_take [7] (i := 6) (v := .pointer (some ⟨w.heap.size + 1 + 1, 3, none⟩)) rfl (by kernel_rfl) (by kernel_rfl) (by kernel_rfl) (by kernel_rfl) (fun _ _ _ h => h) (Or.inl ⟨by rfl, fun W hW => by go_simp⟩) hHeld ?_
          try simp only [Act.put, List.getElem_toArray, List.getElem_cons_succ, List.getElem_cons_zero, List.setIfInBounds_toArray, List.set_cons_zero, List.set_cons_succ]
          refine wpAnyE_one (i := 7) (by kernel_rfl) rfl (fun K0 hK => ?_)
          have FR5 := hide (FR0.out.on HB5.out)
          have m5 := FR5.out.cell 3
          have f5 := FR5.out.free 3
          simp at m5
          go_simp
          refine hK.out _ _ (fun h => absurd rfl h) (fun _ => ?_)
          clear hK K0 hHeld m5 f5
          try simp only [Act.put, List.getElem_toArray, List.getElem_cons_succ, List.getElem_cons_zero, List.setIfInBounds_toArray, List.set_cons_zero, List.set_cons_succ]
          refine wpAnyE_done (by kernel_rfl) ?_ _
          have HT : Hid (Touch (w.heap.size + 1 + 1) (w.heap.size + 1 + 1 + 1) wq (w5.setCell ⟨w.heap.size + 1 + 1, 3, none⟩ (.int .i64 (q3 + z)))) := (Touch.below HB5.out).trans (Touch.setB _ _ _ _)
          have HBx : Hid (Box (w5.setCell ⟨w.heap.size + 1 + 1, 3, none⟩ (.int .i64 (q3 + z))) (w.heap.size + 1 + 1) (rkA q0 q1 q2 q3 q4 (sh0 x) (sh1 B x) (sh2 B x) (sh3 B x) (sh4 B x) (3 + 1))) := by
            unfold Hid
            rw [HZ.out]
            exact FR5.out.set (k := 3) (.int .i64 (q3 + sh3 B x)) (by simp)
          generalize w5.setCell _ _ = w6 at *
          clear FR5 HB5 FR0
          have hs6 := HT.out.size
          have hq6 := FRq.out.lt
          go_wp2
          exact ⟨⟨3 + 1, rfl, by omega, HBq.out.trans ((HT.out.under (by omega)).mono (by omega)), FXq.out.tch HT.out (by omega), FZq.out.tch HT.out (by omega), HBx.out, HSq.out.tch HT.out (by omega) (by omega) (by omega)⟩, by decide⟩
        · have FR0 : Hid (Box wq (w.heap.size + 1 + 1) (r5 (q0 + sh0 x) (q1 + sh1 B x) (q2 + sh2 B x) (q3 + sh3 B x) q4)) := FRq.out
          have hidx : ∀ u : World, (Instr.index 125 (.agg #[.func (.func 104) #[] #[.pointer (some ⟨βs, 0, none⟩)], .func (.func 105) #[] #[.pointer (some ⟨βs, 0, none⟩), .pointer (some ⟨βn, 0, none⟩)], .func (.func 106) #[] #[.pointer (some ⟨βs, 0, none⟩), .pointer (some ⟨βn, 0, none⟩)], .func (.func 107) #[] #[.pointer (some ⟨βl, 0, none⟩)], .func (.func 110) #[] #[.pointer (some ⟨βn, 0, none⟩)]]) (.int .i64 4)).run Tryz.prog u = .ok (.func (.func 110) #[] #[.pointer (some ⟨βn, 0, none⟩)]) u := fun u => by
            simp [Instr.index, go_sem, run_underlying Tryz.underlying125, Result.andThen]
          have HCALL : Hid (∀ W, Below wq.heap.size wq W → Calls Tryz.prog 110 #[.pointer (some ⟨βn, 0, none⟩)] W fun e w' => e = .returned (.int .i64 (sh4 B x)) ∧ Below W.heap.size W w') := fun W hW => share5_any (cx B x) W βn (HSq.out.c.on hW) (by have := ct_len (rdyB x.nm) B.cs; unfold cx ctL; simp only []; omega) (by have := ct_len (liveB x.nm) B.cs; unfold cx ctL; simp only []; omega)
          have hv : IntKind.i64.wrap (q4 + sh4 B x) = q4 + sh4 B x := by rw [IntWalk.i64_left]; unfold wrap64; omega
          obtain ⟨z, hz⟩ : ∃ z, z = sh4 B x := ⟨_, rfl⟩
          rw [← hz] at HCALL hv
          have HZ := hide hz
          clear hz
          go_wp2_with fail
          clear hidx
          refine wp_region_E (S := fun W => Below wq.heap.size wq W) 7 (by kernel_rfl) ((Below.refl _ _).drew) (fun hHeld => ?_)
          refine wpAnyE_take [1, 2, 5, 6, 7] (i := 0) (v := .int .i64 ((4 : Nat) : Int)) rfl (by kernel_rfl) (by kernel_rfl) (by kernel_rfl) (by kernel_rfl) (fun _ _ _ h => h) (Or.inl ⟨by rfl, fun W hW => by go_simp⟩) hHeld ?_
          try simp only [Act.put, List.getElem_toArray, List.getElem_cons_zero, List.setIfInBounds_toArray, List.set_cons_zero, List.set_cons_succ]
          refine wpAnyE_take [2, 5, 6, 7] (i := 1) (v := .pointer (some ⟨w.heap.size + 1 + 1, 4, none⟩)) rfl (by kernel_rfl) (by kernel_rfl) (by kernel_rfl) (by kernel_rfl) (fun _ _ _ h => h) (Or.inl ⟨by rfl, fun W hW => by go_simp⟩) hHeld ?_
          try simp only [Act.put, List.getElem_toArray, List.getElem_cons_succ, List.getElem_cons_zero, List.setIfInBounds_toArray, List.set_cons_zero, List.set_cons_succ]
          refine wpAnyE_take [5, 6, 7] (i := 2) (v := .int .i64 q4) rfl (by kernel_rfl) (by kernel_rfl) (by kernel_rfl) (by kernel_rfl) (fun _ _ _ h => h) (Or.inl ⟨by rfl, fun W hW => by have hm := (FR0.out.on hW).cell 4; simp at hm; go_simp⟩) hHeld ?_
          try simp only [Act.put, List.getElem_toArray, List.getElem_cons_succ, List.getElem_cons_zero, List.setIfInBounds_toArray, List.set_cons_zero, List.set_cons_succ]
          refine wpAnyE_take [4, 5, 6, 7] (i := 3) (v := .func (.func 110) #[] #[.pointer (some ⟨βn, 0, none⟩)]) rfl (by kernel_rfl) (by kernel_rfl) (by kernel_rfl) (by kernel_rfl) (fun _ _ _ h => h) (Or.inl ⟨by rfl, fun W hW => by go_simp⟩) hHeld ?_
          try simp only [Act.put, List.getElem_toArray, List.getElem_cons_succ, List.getElem_cons_zero, List.setIfInBounds_toArray, List.set_cons_zero, List.set_cons_succ]
          refine wpAnyE_one (i := 4) (by kernel_rfl) rfl (fun K0 hK => ?_)
          go_simp
          refine (HCALL.out _ ((Below.refl _ _).drew)).mono ?_
          rintro e w5 ⟨rfl, hb5⟩
          have HB5 : Hid (Below wq.heap.size wq w5) := bt ((Below.refl _ _).drew) hb5
          clear hHeld hb5
          refine hK.out _ _ (fun _ => HB5.out) (fun hHx => ?_)
          have hHeld := hHx (by decide)
          clear hK K0 hHx
          try simp only [Act.put, List.getElem_toArray, List.getElem_cons_succ, List.getElem_cons_zero, List.setIfInBounds_toArray, List.set_cons_zero, List.set_cons_succ]
          refine wpAnyE_take [6, 7] (i := 5) (v := .int .i64 (q4 + z)) rfl (by kernel_rfl) (by kernel_rfl) (by kernel_rfl) (by kernel_rfl) (fun _ _ _ h => h) (Or.inl ⟨by rfl, fun W hW => by go_simp⟩) hHeld ?_
          try simp only [Act.put, List.getElem_toArray, List.getElem_cons_succ, List.getElem_cons_zero, List.setIfInBounds_toArray, List.set_cons_zero, List.set_cons_succ]
          refine wpAnyE_take [7] (i := 6) (v := .pointer (some ⟨w.heap.size + 1 + 1, 4, none⟩)) rfl (by kernel_rfl) (by kernel_rfl) (by kernel_rfl) (by kernel_rfl) (fun _ _ _ h => h) (Or.inl ⟨by rfl, fun W hW => by go_simp⟩) hHeld ?_
          try simp only [Act.put, List.getElem_toArray, List.getElem_cons_succ, List.getElem_cons_zero, List.setIfInBounds_toArray, List.set_cons_zero, List.set_cons_succ]
          refine wpAnyE_one (i := 7) (by kernel_rfl) rfl (fun K0 hK => ?_)
          have FR5 := hide (FR0.out.on HB5.out)
          have m5 := FR5.out.cell 4
          have f5 := FR5.out.free 4
          simp at m5
          go_simp
          refine hK.out _ _ (fun h => absurd rfl h) (fun _ => ?_)
          clear hK K0 hHeld m5 f5
          try simp only [Act.put, List.getElem_toArray, List.getElem_cons_succ, List.getElem_cons_zero, List.setIfInBounds_toArray, List.set_cons_zero, List.set_cons_succ]
          refine wpAnyE_done (by kernel_rfl) ?_ _
          have HT : Hid (Touch (w.heap.size + 1 + 1) (w.heap.size + 1 + 1 + 1) wq (w5.setCell ⟨w.heap.size + 1 + 1, 4, none⟩ (.int .i64 (q4 + z)))) := (Touch.below HB5.out).trans (Touch.setB _ _ _ _)
          have HBx : Hid (Box (w5.setCell ⟨w.heap.size + 1 + 1, 4, none⟩ (.int .i64 (q4 + z))) (w.heap.size + 1 + 1) (rkA q0 q1 q2 q3 q4 (sh0 x) (sh1 B x) (sh2 B x) (sh3 B x) (sh4 B x) (4 + 1))) := by
            unfold Hid
            rw [HZ.out]
            exact FR5.out.set (k := 4) (.int .i64 (q4 + sh4 B x)) (by simp)
          generalize w5.setCell _ _ = w6 at *
          clear FR5 HB5 FR0
          have hs6 := HT.out.size
          have hq6 := FRq.out.lt
          go_wp2
          exact ⟨⟨4 + 1, rfl, by omega, HBq.out.trans ((HT.out.under (by omega)).mono (by omega)), FXq.out.tch HT.out (by omega), FZq.out.tch HT.out (by omega), HBx.out, HSq.out.tch HT.out (by omega) (by omega) (by omega)⟩, by decide⟩
        · have FRk : Hid (Box wq (w.heap.size + 1 + 1) (r5 (sumL sh0 (B.ss.take (k + 1))) (sumL (sh1 B) (B.ss.take (k + 1))) (sumL (sh2 B) (B.ss.take (k + 1))) (sumL (sh3 B) (B.ss.take (k + 1))) (sumL (sh4 B) (B.ss.take (k + 1))))) := by
            unfold Hid
            rw [T0.out, T1.out, T2.out, T3.out, T4.out]
            exact FRq.out
          go_wp2
          go_roundw
          case rel => exact ⟨k + 1, by go_num, by omega, HBq.out, FXq.out, FZq.out, FRk.out⟩
          case measure => simp [intOf]; omega
    · have hke : k = B.ss.length := by omega
      subst hke
      rw [List.take_length] at FR
      have x5 := FR.out.cell
      have z5 := FZ.out.cell
      have zf := FZ.out.free
      have HBX : Hid (Box (((((wr.setCell ⟨w.heap.size + 1, 0, none⟩ (.int .i64 (sumL sh0 B.ss))).setCell ⟨w.heap.size + 1, 1, none⟩ (.int .i64 (sumL (sh1 B) B.ss))).setCell ⟨w.heap.size + 1, 2, none⟩ (.int .i64 (sumL (sh2 B) B.ss))).setCell ⟨w.heap.size + 1, 3, none⟩ (.int .i64 (sumL (sh3 B) B.ss))).setCell ⟨w.heap.size + 1, 4, none⟩ (.int .i64 (sumL (sh4 B) B.ss))) (w.heap.size + 1) (r5 (sumL sh0 B.ss) (sumL (sh1 B) B.ss) (sumL (sh2 B) B.ss) (sumL (sh3 B) B.ss) (sumL (sh4 B) B.ss))) :=
        ((((FZ.out.set (k := 0) (.int .i64 (sumL sh0 B.ss)) (by simp)).set (k := 1) (.int .i64 (sumL (sh1 B) B.ss)) (by simp)).set (k := 2) (.int .i64 (sumL (sh2 B) B.ss)) (by simp)).set (k := 3) (.int .i64 (sumL (sh3 B) B.ss)) (by simp)).set (k := 4) (.int .i64 (sumL (sh4 B) B.ss)) (by simp)
      have HBZ := hide ((((((HB.out.setCell (p := ⟨w.heap.size + 1, 0, none⟩) (by simp only []; omega) (.int .i64 (sumL sh0 B.ss))).setCell (p := ⟨w.heap.size + 1, 1, none⟩) (by simp only []; omega) (.int .i64 (sumL (sh1 B) B.ss))).setCell (p := ⟨w.heap.size + 1, 2, none⟩) (by simp only []; omega) (.int .i64 (sumL (sh2 B) B.ss))).setCell (p := ⟨w.heap.size + 1, 3, none⟩) (by simp only []; omega) (.int .i64 (sumL (sh3 B) B.ss))).setCell (p := ⟨w.heap.size + 1, 4, none⟩) (by simp only []; omega) (.int .i64 (sumL (sh4 B) B.ss))))
      go_wp2
      exact bodyPost_ret (v := .agg (r5 (sumL sh0 B.ss) (sumL (sh1 B) B.ss) (sumL (sh2 B) B.ss) (sumL (sh3 B) B.ss) (sumL (sh4 B) B.ss))) (res_cell_mid rfl _ _ (w.heap.size + 1) 0 [.int .i64 (sumL sh0 B.ss), .int .i64 (sumL (sh1 B) B.ss), .int .i64 (sumL (sh2 B) B.ss), .int .i64 (sumL (sh3 B) B.ss), .int .i64 (sumL (sh4 B) B.ss)] _ rfl (HBX.out.range rfl) Tryz.underlying100 rfl (by kernel_rfl)) rfl ⟨rfl, HBZ.out⟩
end Go.Proofs.YtemggnmooiaokaaGreat
