import Derived.Test.YtemggnmooiaokaaGreatD23
import Derived.Test.YtemggnmooiaokaaGreatD24
namespace Go.Proofs.YtemggnmooiaokaaGreat
open Go.RowKit Go.Deep

abbrev r5 (a0 a1 a2 a3 a4 : Int) : Array Value := #[.int .i64 a0, .int .i64 a1, .int .i64 a2, .int .i64 a3, .int .i64 a4]
theorem Box.tch {w w' : World} {β lo hi : Nat} {cs : Array Value} (h : Box w β cs) (ht : Touch lo hi w w') (ho : β < lo ∨ hi ≤ β) : Box w' β cs :=
  ⟨Nat.lt_of_lt_of_le h.lt ht.size, fun i => (ht.cell (p := ⟨β, i, none⟩) h.lt ho).trans (h.cell i), fun i => (ht.frozen (p := ⟨β, i, none⟩) h.lt ho).trans (h.free i)⟩
theorem valid_s8 {B : Sb} (h : validB B = true) : B.ss.length ≤ 8 ∧ B.cs.length ≤ 200 ∧ (∀ x ∈ B.ss, svB B.now x = true) := by
  unfold validB at h
  simp only [Bool.and_eq_true, decide_eq_true_iff] at h
  exact ⟨h.2.1, h.2.2.1, List.all_eq_true.1 h.2.2.2.2.1.1⟩
theorem svB_wa {now : Int} {x : Sv} (h : svB now x = true) : 0 ≤ x.wa ∧ x.wa ≤ 10 := by
  unfold svB at h
  simp only [Bool.and_eq_true] at h
  have := h.2.2.2.2.1
  unfold inB at this
  simp only [decide_eq_true_iff] at this
  exact this
theorem cnt_step {p : Cp → Bool} {L : List Cp} {P : List Nat} {j : Nat} (h : j < P.length) (hc : P[j] < L.length) : (((getP L (P.take (j + 1))).filter p).length : Nat) = ((getP L (P.take j)).filter p).length + (if p L[P[j]] then 1 else 0) := by
  rw [List.take_succ_eq_append_getElem h, getP_app, List.filter_append, List.length_append]
  congr 1
  unfold getP
  simp only [List.filterMap_cons, List.filterMap_nil, List.getElem?_eq_getElem hc]
  cases hp : p L[P[j]] <;> simp [hp]
theorem live_plc (B : Sb) (s : ByteArray) : getP B.cs (plc (liveB s) B.cs B.cs.length) = liveL B s := by
  rw [getP_plc _ _ _ (Nat.le_refl _), List.take_length]
  rfl

/-- numbers that can be read -/
def NumsAt (w : World) (base : Nat) (a : Option Addr) (P : List Nat) : Prop := ∀ i (h : i < P.length), ∃ g, a = some ⟨g, 0, none⟩ ∧ base ≤ g ∧ g < w.heap.size ∧ w.cell? ⟨g, i, none⟩ = some (.int .i64 (P[i] : Int))
theorem NumsAt.of {w : World} {base : Nat} {a : Option Addr} {n k : Nat} {P : List Nat} (h : IRow w base (.slice a n k) P) : NumsAt w base a P := fun i hi => by
  obtain ⟨g, cap, hge, hg1, hgb, hgc⟩ := h.at hi
  injection hge with hga
  exact ⟨g, hga, hgb, hg1, hgc⟩
theorem NumsAt.tch {w w' : World} {base lo hi : Nat} {a : Option Addr} {P : List Nat} (h : NumsAt w base a P) (ht : Touch lo hi w w') (hb : hi ≤ base) : NumsAt w' base a P := fun i hi => by
  obtain ⟨g, h1, h2, h3, h4⟩ := h i hi
  exact ⟨g, h1, h2, Nat.lt_of_lt_of_le h3 ht.size, (ht.cell (p := ⟨g, i, none⟩) h3 (Or.inr (by simp only []; omega))).trans h4⟩
theorem getP_len (L : List Cp) (P : List Nat) : (getP L P).length ≤ P.length := List.length_filterMap_le _ _
theorem cnt_le (p : Cp → Bool) (L : List Cp) (P : List Nat) (j : Nat) : ((getP L (P.take j)).filter p).length ≤ P.length :=
  Nat.le_trans (List.length_filter_le _ _) (Nat.le_trans (getP_len _ _) (by simp; omega))

set_option maxRecDepth 100000 in
set_option maxHeartbeats 16000000 in
theorem specRank_any (lo : Nat) (sv cv bv : Value) (B : Sb) (w : World) (h : SbAt lo w sv cv bv B) (hv : validB B = true) :
    Calls Tryz.prog 20 #[.agg #[.int .i64 B.now, sv, cv, bv]] w fun e w' => e = .returned (.slice (some ⟨w.heap.size + 1, 0, none⟩) 5 5) ∧ Below w.heap.size w w' ∧ Box w' (w.heap.size + 1) (r5 (sumL sh0 B.ss) (sumL (sh1 B) B.ss) (sumL (sh2 B) B.ss) (sumL (sq3 B) B.ss) (sumL (sq4 B) B.ss)) := by
  have HK := hide h
  have HV := hide hv
  obtain ⟨h8, h200, hsv⟩ := valid_s8 hv
  have HSV := hide hsv
  obtain ⟨a0, k0, rfl⟩ := h.svs.form
  obtain ⟨a1, k1, rfl⟩ := h.cps.form
  obtain ⟨a2, k2, rfl⟩ := h.bes.form
  clear h hv hsv
  go_enter Tryz.func20, Tryz.ntmps20
  go_wp2_with fail
  generalize hWa : World.alloc (w.alloc _) _ = Wa
  have HB : Hid (Below w.heap.size w Wa) := by unfold Hid; rw [← hWa]; exact (one_al w _).alloc (by simp) _
  have F1 : Hid (Box Wa w.heap.size #[.int .i64 B.now, .slice a0 B.ss.length k0, .slice a1 B.cs.length k1, .slice a2 B.bs.length k2]) := by unfold Hid; rw [← hWa]; exact (Box.new _ _ _ _ rfl).on (one_al _ _)
  have FR : Hid (Box Wa (w.heap.size + 1) (r5 0 0 0 0 0)) := by unfold Hid; rw [← hWa]; exact Box.new _ _ _ _ (by simp)
  clear hWa
  refine (specValid_any lo _ _ _ B _ (HK.out.below HB.out)).mono ?_
  rintro e w1 ⟨rfl, hb1⟩
  rw [HV.out]
  replace HB := hide (bt HB.out hb1)
  replace F1 := hide (F1.out.on hb1)
  replace FR := hide (FR.out.on hb1)
  clear hb1
  go_wp2
  go_loopw [4] (fun i wr => ∃ k : Nat, i = .int .i64 k ∧ k ≤ B.ss.length ∧ Below w.heap.size w wr ∧ Box wr w.heap.size #[.int .i64 B.now, .slice a0 B.ss.length k0, .slice a1 B.cs.length k1, .slice a2 B.bs.length k2] ∧ Box wr (w.heap.size + 1) (r5 (sumL sh0 (B.ss.take k)) (sumL (sh1 B) (B.ss.take k)) (sumL (sh2 B) (B.ss.take k)) (sumL (sq3 B) (B.ss.take k)) (sumL (sq4 B) (B.ss.take k)))) (fun i _ => B.ss.length - (intOf i).toNat)
  case atStart => exact ⟨0, rfl, Nat.zero_le _, HB.out, F1.out, by simpa [sumL] using FR.out⟩
  case round =>
    obtain ⟨k, rfl, hk, hb, hf, hr⟩ := hrel
    replace HB := hide hb
    replace F1 := hide hf
    replace FR := hide hr
    clear hb hf hr
    by_cases hlt : k < B.ss.length
    · have hmem : B.ss[k] ∈ B.ss := List.getElem_mem hlt
      have T0 := hide (sum_take (f := sh0) hlt)
      have T1 := hide (sum_take (f := sh1 B) hlt)
      have T2 := hide (sum_take (f := sh2 B) hlt)
      have T3 := hide (sum_take (f := sq3 B) hlt)
      have T4 := hide (sum_take (f := sq4 B) hlt)
      have hwa := svB_wa (HSV.out _ hmem)
      have tl : (B.ss.take k).length ≤ 8 := by simp; omega
      have b0 := sum_bd (f := sh0) (K := 1000) (L := B.ss.take k) (fun x _ => sh0_bd x)
      have b1 := sum_bd (f := sh1 B) (K := 1000) (L := B.ss.take k) (fun x _ => sh1_bd h200 x)
      have b2 := sum_bd (f := sh2 B) (K := 1000) (L := B.ss.take k) (fun x hx => sh2_bd h200 (svB_wa (HSV.out _ (List.mem_of_mem_take hx))))
      have b3 := sum_bd (f := sq3 B) (K := 1000) (L := B.ss.take k) (fun x _ => sq3_bd h200 x)
      have b4 := sum_bd (f := sq4 B) (K := 1000) (L := B.ss.take k) (fun x _ => sq4_bd h200 x)
      have HCT := hide (ctB_li hmem)
      obtain ⟨sb, so, rfl, hsb, -, hcc⟩ := HK.out.svs.full' (by omega)
      obtain ⟨c0, c1, c2, c3, c4, c5, c6, c7, c8, c9, c10, c11, c12⟩ := (hcc k hlt).2.below HB.out hsb
      clear hcc
      obtain ⟨x, hx⟩ : ∃ x, x = B.ss[k] := ⟨_, rfl⟩
      rw [← hx] at c0 c1 c2 c3 c4 c5 c6 c7 c8 c9 c10 c11 c12 T0 T1 T2 T3 T4 hwa HCT
      clear hx hmem
      obtain ⟨q0, e0⟩ : ∃ q, q = sumL sh0 (B.ss.take k) := ⟨_, rfl⟩
      obtain ⟨q1, e1⟩ : ∃ q, q = sumL (sh1 B) (B.ss.take k) := ⟨_, rfl⟩
      obtain ⟨q2, e2⟩ : ∃ q, q = sumL (sh2 B) (B.ss.take k) := ⟨_, rfl⟩
      obtain ⟨q3, e3⟩ : ∃ q, q = sumL (sq3 B) (B.ss.take k) := ⟨_, rfl⟩
      obtain ⟨q4, e4⟩ : ∃ q, q = sumL (sq4 B) (B.ss.take k) := ⟨_, rfl⟩
      rw [← e0, ← e1, ← e2, ← e3, ← e4] at FR
      rw [← e0] at T0 b0
      rw [← e1] at T1 b1
      rw [← e2] at T2 b2
      rw [← e3] at T3 b3
      rw [← e4] at T4 b4
      clear e0 e1 e2 e3 e4
      replace b0 : 0 ≤ q0 ∧ q0 ≤ 8000 := by omega
      replace b1 : 0 ≤ q1 ∧ q1 ≤ 8000 := by omega
      replace b2 : 0 ≤ q2 ∧ q2 ≤ 8000 := by omega
      replace b3 : 0 ≤ q3 ∧ q3 ≤ 8000 := by omega
      replace b4 : 0 ≤ q4 ∧ q4 ≤ 8000 := by omega
      clear tl
      have p1 := F1.out.cell 1
      have i0 : (0 : Int) ≤ (k : Int) := by omega
      have i1' : (k : Int) < (B.ss.length : Int) := by omega
      simp at p1
      have p : ∀ o i, (wr.alloc o).cell? ⟨w.heap.size, i, none⟩ = _ := fun o i => (F1.out.on (one_al _ o)).cell i
      go_wp2_with fail
      clear p p1
      generalize hWb : wr.alloc _ = Wb
      have hbb : Below wr.heap.size wr Wb := by rw [← hWb]; exact one_al _ _
      have HB1 := hide (bt HB.out hbb)
      have F1b := hide (F1.out.on hbb)
      have FRb := hide (FR.out.on hbb)
      have FSb : Hid (Box Wb wr.heap.size #[.string x.nm, .int .i64 x.ve, .bool x.gn, .int .i64 x.im, .int .i64 x.wa, .int .i64 x.dn, .int .i64 x.ov, .int .i64 x.nx, .int .i64 x.pr, .int .i64 x.ls, .int .i64 x.ms, .int .i64 x.ld, .int .i64 x.cl]) := by unfold Hid; rw [← hWb]; exact Box.new _ _ _ _ rfl
      have hwz : w.heap.size + 1 < wr.heap.size := FR.out.lt
      clear hbb hWb c0 c1 c2 c3 c4 c5 c6 c7 c8 c9 c10 c11 c12 FR F1
      refine (l13Count_any lo _ _ _ B x.nm _ (HK.out.below HB1.out)).mono ?_
      rintro e w2 ⟨c, rfl, hc, hb2⟩
      have HC1 : Hid (c.li = (cx B x).li) := by unfold Hid; rw [hc.out]; exact HCT.out.1
      have HC2 : Hid (c.en = (cx B x).en) := by unfold Hid; rw [hc.out]; exact HCT.out.2
      have HB2 := hide (bt HB1.out hb2)
      have F2 := hide (F1b.out.on hb2)
      have FR2 := hide (FRb.out.on hb2)
      have FS2 := hide (FSb.out.on hb2)
      clear hb2 HB1 F1b FRb FSb hc HCT
      go_wp2_with fail
      generalize hWc : w2.alloc _ = Wc
      have hbc : Below w2.heap.size w2 Wc := by rw [← hWc]; exact one_al _ _
      have HB3 := hide (bt HB2.out hbc)
      have F3 := hide (F2.out.on hbc)
      have FR3 := hide (FR2.out.on hbc)
      have FS3 := hide (FS2.out.on hbc)
      have FN3 : Hid (Box Wc w2.heap.size #[.int .i64 c.li, .int .i64 c.re, .int .i64 c.ol, .int .i64 c.fa, .int .i64 c.en]) := by unfold Hid; rw [← hWc]; exact Box.new _ _ _ _ rfl
      have hz2 : wr.heap.size < w2.heap.size := FS2.out.lt
      clear hWc hbc HB2 F2 FR2 FS2
      have ble : 0 ≤ c.en ∧ c.en ≤ 200 := by
        have := ct_len (endB x.nm) B.cs
        have e : c.en = ct (endB x.nm) B.cs := HC2.out
        omega
      have bll : 0 ≤ c.li ∧ c.li ≤ 200 := by
        have := ct_len (liveB x.nm) B.cs
        have e : c.li = ct (liveB x.nm) B.cs := HC1.out
        omega
      have v1 : IntKind.i64.wrap (q1 + c.en) = q1 + c.en := by rw [IntWalk.i64_left]; unfold wrap64; omega
      have m1 := FR3.out.cell 1
      have n4 := FN3.out.cell 4
      have f1 := FR3.out.free 1
      simp at m1 n4
      go_cut [] from 32 to 39 (fun wc => Touch (w.heap.size + 1) (w.heap.size + 1 + 1) Wc wc ∧ Box wc (w.heap.size + 1) (r5 q0 (q1 + c.en) q2 q3 q4))
      case first =>
        go_region
        all_goals go_wp2
        all_goals go_meet
        all_goals exact ⟨(Touch.setB _ _ _ _).trans (Touch.below ((Below.refl _ _).drew)), (FR3.out.set (k := 1) (.int .i64 (q1 + c.en)) (by simp)).drew⟩
      case rest =>
      clear m1 n4 f1 v1
      revert wc
      intro w4 hcut
      obtain ⟨ht4, hp4⟩ := hcut
      have F4 := hide (F3.out.tch ht4 (by omega))
      have FS4 := hide (FS3.out.tch ht4 (by omega))
      have FN4 := hide (FN3.out.tch ht4 (by omega))
      have hz4 := ht4.size
      have hz3 := FN3.out.lt
      have HB4 : Hid (Below w.heap.size w w4) := HB3.out.trans ((ht4.under (by omega)).mono (by omega))
      have FR4 := hide hp4
      clear ht4 hp4 F3 FS3 FN3 FR3 HB3
      obtain ⟨q1', eq1⟩ : ∃ q, q = q1 + c.en := ⟨_, rfl⟩
      rw [← eq1] at FR4
      have bq1 : 0 ≤ q1' ∧ q1' ≤ 8200 := by omega
      have EQ1 := hide eq1
      clear eq1
      have s2 := FS4.out.cell 2
      simp at s2
      cases hg : x.gn with
      | true =>
        rw [hg] at s2
        have v0 : IntKind.i64.wrap (q0 + 1) = q0 + 1 := by rw [IntWalk.i64_left]; unfold wrap64; omega
        have m0 := FR4.out.cell 0
        have f0 := FR4.out.free
        simp at m0
        go_wp2_with fail
        clear m0 f0 v0 s2
        generalize hW5 : w4.setCell _ _ = w5
        have ht5 : Touch (w.heap.size + 1) (w.heap.size + 1 + 1) w4 w5 := by rw [← hW5]; exact Touch.setB _ _ _ _
        have FR5 : Hid (Box w5 (w.heap.size + 1) (r5 (q0 + 1) q1' q2 q3 q4)) := by unfold Hid; rw [← hW5]; exact FR4.out.set (k := 0) (.int .i64 (q0 + 1)) (by simp)
        have F5 := hide (F4.out.tch ht5 (by omega))
        have FN5 := hide (FN4.out.tch ht5 (by omega))
        have hz5 := ht5.size
        have HB5 : Hid (Below w.heap.size w w5) := HB4.out.trans ((ht5.under (by omega)).mono (by omega))
        clear hW5 ht5 FR4 F4 FN4 FS4 HB4
        have v1 : IntKind.i64.wrap (q1' + c.li) = q1' + c.li := by rw [IntWalk.i64_left]; unfold wrap64; omega
        have m1 := FR5.out.cell 1
        have n0 := FN5.out.cell 0
        have f1 := FR5.out.free 1
        simp at m1 n0
        go_cut [] from 47 to 54 (fun wc => Touch (w.heap.size + 1) (w.heap.size + 1 + 1) w5 wc ∧ Box wc (w.heap.size + 1) (r5 (q0 + 1) (q1' + c.li) q2 q3 q4))
        case first =>
          go_region
          all_goals go_wp2
          all_goals go_meet
          all_goals exact ⟨(Touch.setB _ _ _ _).trans (Touch.below ((Below.refl _ _).drew)), (FR5.out.set (k := 1) (.int .i64 (q1' + c.li)) (by simp)).drew⟩
        case rest =>
        clear m1 n0 f1 v1
        revert wc
        intro w6 hcut
        obtain ⟨ht6, hp6⟩ := hcut
        have F6 := hide (F5.out.tch ht6 (by omega))
        have HB6 : Hid (Below w.heap.size w w6) := HB5.out.trans ((ht6.under (by omega)).mono (by omega))
        have FR6 : Hid (Box w6 (w.heap.size + 1) (r5 (sumL sh0 (B.ss.take (k + 1))) (sumL (sh1 B) (B.ss.take (k + 1))) (sumL (sh2 B) (B.ss.take (k + 1))) (sumL (sq3 B) (B.ss.take (k + 1))) (sumL (sq4 B) (B.ss.take (k + 1))))) := by
          unfold Hid
          have E1 : sh1 B x = c.en + c.li := by unfold sh1; rw [hg, HC1.out, HC2.out]; rfl
          have E0 : sh0 x = 1 := by unfold sh0; rw [hg]; rfl
          have E2 : sh2 B x = 0 := by unfold sh2; rw [hg]; rfl
          have E3 : sq3 B x = 0 := by unfold sq3; rw [hg]; rfl
          have E4 : sq4 B x = 0 := by unfold sq4; rw [hg]; rfl
          rw [T0.out, T1.out, T2.out, T3.out, T4.out, E0, E1, E2, E3, E4, Int.add_zero, Int.add_zero, Int.add_zero, ← Int.add_assoc, ← EQ1.out]
          exact hp6
        clear ht6 hp6 F5 HB5 FR5 FN5
        go_wp2
        go_roundw
        case rel => exact ⟨k + 1, by go_num, by omega, HB6.out, F6.out, FR6.out⟩
        case measure => simp [intOf]; omega
      | false =>
        rw [hg] at s2
        have E1 : Hid (sh1 B x = c.en) := by unfold Hid sh1; rw [hg, HC2.out]; rfl
        have E0 : Hid (sh0 x = 0) := by unfold Hid sh0; rw [hg]; rfl
        have E2 : sh2 B x = max (c.li - x.wa) (x.wa - c.li) := by unfold sh2; rw [hg, HC1.out]; rfl
        have E3 : Hid (sq3 B x = ((misL B x).length : Nat)) := by unfold Hid sq3; rw [hg]; rfl
        have E4 : Hid (sq4 B x = ((unrL B x.nm).length : Nat)) := by unfold Hid sq4; rw [hg]; rfl
        obtain ⟨z, hz⟩ : ∃ z, c.li - x.wa = z := ⟨_, rfl⟩
        obtain ⟨d, hd⟩ : ∃ d, sh2 B x = d := ⟨_, rfl⟩
        have bd : 0 ≤ d ∧ d ≤ 1000 := by rw [← hd]; exact sh2_bd h200 hwa
        rw [hd] at E2
        have HD := hide hd
        have n0 := FN4.out.cell 0
        have s4 := FS4.out.cell 4
        have m2 := FR4.out.cell 2
        have f2 := FR4.out.free 2
        simp at n0 s4 m2
        have u1 : IntKind.i64.wrap (c.li - x.wa) = z := by rw [IntWalk.i64_left]; unfold wrap64; omega
        have u3 : IntKind.i64.wrap (q2 + d) = q2 + d := by rw [IntWalk.i64_left]; unfold wrap64; omega
        have pS : ∀ u i, (w4.setCell ⟨w.heap.size + 1, 2, none⟩ u).cell? ⟨w.heap.size, i, none⟩ = _ := fun u i => (F4.out.setFar (p := ⟨w.heap.size + 1, 2, none⟩) (by simp only []; omega) u).cell i
        have sS : ∀ u, (w4.setCell ⟨w.heap.size + 1, 2, none⟩ u).cell? ⟨wr.heap.size, 0, none⟩ = some (.string x.nm) := fun u => by rw [(FS4.out.setFar (p := ⟨w.heap.size + 1, 2, none⟩) (by simp only []; omega) u).cell 0]; rfl
        have HZD : Hid ((z < 0 → IntKind.i64.wrap (-z) = d) ∧ (¬ z < 0 → z = d)) := ⟨fun hzn => by rw [IntWalk.i64_left]; unfold wrap64; omega, fun hzn => by omega⟩
        clear E2 hd hz
        by_cases hzn : z < 0
        all_goals
          first
            | (have u2 := HZD.out.1 hzn)
            | (have u2 := HZD.out.2 hzn; have u4 : ¬ d < 0 := by omega)
          go_wp2_with fail
          clear n0 s4 m2 f2 u1 u3 pS sS s2
          try clear u2
          generalize hW5 : w4.setCell _ _ = w5
          have ht5 : Touch (w.heap.size + 1) (w.heap.size + 1 + 1) w4 w5 := by rw [← hW5]; exact Touch.setB _ _ _ _
          have FR5 : Hid (Box w5 (w.heap.size + 1) (r5 q0 q1' (q2 + d) q3 q4)) := by unfold Hid; rw [← hW5]; exact FR4.out.set (k := 2) _ (by simp)
          have F5 := hide (F4.out.tch ht5 (by omega))
          have FS5 := hide (FS4.out.tch ht5 (by omega))
          have hz5 := ht5.size
          have HB5 : Hid (Below w.heap.size w w5) := HB4.out.trans ((ht5.under (by omega)).mono (by omega))
          clear hW5 ht5 FR4 F4 FN4 FS4 HB4
          refine (l16Live_any lo _ _ _ B x.nm _ (HK.out.below HB5.out) (by omega)).mono ?_
          rintro e w6 ⟨v, rfl, hb6, hrow⟩
          have HB6 := hide (bt HB5.out hb6)
          have F6 := hide (F5.out.on hb6)
          have FS6 := hide (FS5.out.on hb6)
          have FR6 := hide (FR5.out.on hb6)
          have hz6 := hb6.size
          clear hb6 HB5 F5 FS5 FR5
          have PL := hide (live_plc B x.nm)
          have PM : Hid (∀ i ∈ plc (liveB x.nm) B.cs B.cs.length, i < B.cs.length) := fun i hi => plc_lt hi
          have pln : (plc (liveB x.nm) B.cs B.cs.length).length ≤ 200 := by
            unfold plc
            exact Nat.le_trans (List.length_filter_le _ _) (by simp; omega)
          generalize plc (liveB x.nm) B.cs B.cs.length = P at *
          obtain ⟨a9, k9, rfl⟩ := hrow.form
          have HROW := hide (NumsAt.of hrow)
          clear hrow
          go_wp2
          obtain ⟨wo, hwo⟩ : ∃ W, W = wr := ⟨_, rfl⟩
          subst hwo
          go_loopw [9] (fun i wq => ∃ j : Nat, i = .int .i64 j ∧ j ≤ P.length ∧ Below w.heap.size w wq ∧ w6.heap.size ≤ wq.heap.size ∧ Box wq w.heap.size #[.int .i64 B.now, .slice (some ⟨sb, so, none⟩) B.ss.length k0, .slice a1 B.cs.length k1, .slice a2 B.bs.length k2] ∧ Box wq wo.heap.size #[.string x.nm, .int .i64 x.ve, .bool x.gn, .int .i64 x.im, .int .i64 x.wa, .int .i64 x.dn, .int .i64 x.ov, .int .i64 x.nx, .int .i64 x.pr, .int .i64 x.ls, .int .i64 x.ms, .int .i64 x.ld, .int .i64 x.cl] ∧ NumsAt wq w5.heap.size a9 P ∧ Box wq (w.heap.size + 1) (r5 q0 q1' (q2 + d) (q3 + (((getP B.cs (P.take j)).filter (misB B x)).length : Nat)) (q4 + (((getP B.cs (P.take j)).filter fun c => c.st != 3).length : Nat)))) (fun i _ => P.length - (intOf i).toNat)
          case atStart => exact ⟨0, rfl, Nat.zero_le _, HB6.out, Nat.le_refl _, F6.out, FS6.out, HROW.out, by simpa [getP] using FR6.out⟩
          case round =>
            obtain ⟨j, rfl, hj, hbq, hzq, hfq, hsq, hrq, hr5⟩ := hrel
            obtain ⟨wq, hwq⟩ : ∃ W, W = wr := ⟨_, rfl⟩
            subst hwq
            have HBq := hide hbq
            have Fq := hide hfq
            have FSq := hide hsq
            have HRq := hide hrq
            have FRq := hide hr5
            clear hbq hfq hsq hrq hr5 HB6 F6 FS6 FR6 HROW
            by_cases hltj : j < P.length
            · obtain ⟨g, rfl, hgb, hgz, hgc⟩ := HRq.out j hltj
              have hcj : P[j] < B.cs.length := PM.out _ (List.getElem_mem hltj)
              obtain ⟨cb, co, rfl, hcb, -, hcc⟩ := HK.out.cps.full' (by omega)
              obtain ⟨c0, c1, c2, c3, c4, c5, c6⟩ := (hcc P[j] hcj).2.below HBq.out hcb
              have C3 := hide (cnt_step (p := misB B x) hltj hcj)
              have C4 := hide (cnt_step (p := fun c => c.st != 3) hltj hcj)
              have L3 := cnt_le (misB B x) B.cs P j
              have L4 := cnt_le (fun c => c.st != 3) B.cs P j
              clear hcc
              obtain ⟨cc, hcq⟩ : ∃ c, c = B.cs[P[j]] := ⟨_, rfl⟩
              rw [← hcq] at c0 c1 c2 c3 c4 c5 c6 C3 C4
              clear hcq
              obtain ⟨q, hq⟩ : ∃ q, q = P[j] := ⟨_, rfl⟩
              rw [← hq] at c0 c1 c2 c3 c4 c5 c6 hgc hcj
              clear hq
              obtain ⟨y3, hy3⟩ : ∃ y, y = ((getP B.cs (P.take j)).filter (misB B x)).length := ⟨_, rfl⟩
              obtain ⟨y4, hy4⟩ : ∃ y, y = ((getP B.cs (P.take j)).filter fun c => c.st != 3).length := ⟨_, rfl⟩
              rw [← hy3, ← hy4] at FRq
              rw [← hy3] at C3 L3
              rw [← hy4] at C4 L4
              clear hy3 hy4
              obtain ⟨t3, ht3⟩ : ∃ t : Int, t = q3 + (y3 : Nat) := ⟨_, rfl⟩
              obtain ⟨t4, ht4⟩ : ∃ t : Int, t = q4 + (y4 : Nat) := ⟨_, rfl⟩
              rw [← ht3, ← ht4] at FRq
              have bt3 : 0 ≤ t3 ∧ t3 ≤ 9000 := by omega
              have bt4 : 0 ≤ t4 ∧ t4 ≤ 9000 := by omega
              have HT3 := hide ht3
              have HT4 := hide ht4
              clear ht3 ht4
              have hbw := Fq.out.lt
              have p2 := Fq.out.cell 2
              simp at p2
              have p2a : ∀ o, (wq.alloc o).cell? ⟨w.heap.size, 2, none⟩ = _ := fun o => (cell_alloc_lt _ _ _ _ hbw).trans p2
              have gca : ∀ o, (wq.alloc o).cell? ⟨g, j, none⟩ = _ := fun o => (cell_alloc_lt _ _ _ _ hgz).trans hgc
              have hcz : cb < wq.heap.size := Nat.lt_of_lt_of_le hcb HBq.out.size
              have c0a : ∀ o, (wq.alloc o).cell? _ = _ := fun o => (cell_alloc_lt _ _ _ _ hcz).trans c0
              have c1a : ∀ o, (wq.alloc o).cell? _ = _ := fun o => (cell_alloc_lt _ _ _ _ hcz).trans c1
              have c2a : ∀ o, (wq.alloc o).cell? _ = _ := fun o => (cell_alloc_lt _ _ _ _ hcz).trans c2
              have c3a : ∀ o, (wq.alloc o).cell? _ = _ := fun o => (cell_alloc_lt _ _ _ _ hcz).trans c3
              have c4a : ∀ o, (wq.alloc o).cell? _ = _ := fun o => (cell_alloc_lt _ _ _ _ hcz).trans c4
              have c5a : ∀ o, (wq.alloc o).cell? _ = _ := fun o => (cell_alloc_lt _ _ _ _ hcz).trans c5
              have c6a : ∀ o, (wq.alloc o).cell? _ = _ := fun o => (cell_alloc_lt _ _ _ _ hcz).trans c6
              have j0 : (0 : Int) ≤ (j : Int) := by omega
              have j1' : (j : Int) < (P.length : Int) := by omega
              have g0 : (0 : Int) ≤ (q : Int) := by omega
              have g1' : (q : Int) < (B.cs.length : Int) := by omega
              go_wp2_with fail
              go_cut [10] from 81 to 88 (fun v wc => v = .pointer (some ⟨wq.heap.size, 0, none⟩) ∧ Below wq.heap.size wq wc ∧ Box wc wq.heap.size #[.string cc.se, .int .i64 cc.nu, .int .i64 cc.ve, .int .i64 cc.im, .int .i64 cc.st, .bool cc.en, .string cc.be])
              case first =>
                go_region
                all_goals go_wp2
                all_goals go_meet
                all_goals exact ⟨rfl, ((one_al _ _).drew), (Box.new _ _ _ _ rfl).drew⟩
              case rest =>
              revert wc
              intro w7 hcut
              obtain ⟨rfl, hbc, hcb2⟩ := hcut
              have HBc := hide (bt HBq.out hbc)
              have Fc := hide (Fq.out.on hbc)
              have FSc := hide (FSq.out.on hbc)
              have FRc := hide (FRq.out.on hbc)
              have FCc := hide hcb2
              have HRc := hide (NumsAt.tch HRq.out (Touch.below (lo := 0) (hi := 0) hbc) (Nat.zero_le _))
              have hzc := hbc.size
              have hlc := hcb2.lt
              clear hbc hcb2 p2 p2a gca c0 c1 c2 c3 c4 c5 c6 c0a c1a c2a c3a c4a c5a c6a HBq Fq FSq FRq HRq hgc
              have k3 := FCc.out.cell 3
              have s3 := FSc.out.cell 3
              simp at k3 s3
              go_step
              go_step
              go_step
              go_cut [98] from 89 to 98 (fun v wd => v = .bool (misB B x cc) ∧ Below w7.heap.size w7 wd)
              case first =>
                cases him : (cc.im != x.im) with
                | true =>
                  go_wp2
                  go_meet
                  exact ⟨by unfold misB; rw [him]; rfl, Below.refl _ _⟩
                | false =>
                  have pb := Fc.out.cell
                  have kc := FCc.out.cell
                  go_wp2_with fail
                  refine (l16Drains_any lo _ _ _ B cc _ (HK.out.below HBc.out)).mono ?_
                  rintro e w8 ⟨rfl, hb8⟩
                  clear pb kc
                  have HB8 := hide hb8
                  clear hb8
                  go_wp2
                  go_meet
                  exact ⟨by unfold misB; rw [him]; rfl, HB8.out⟩
              case rest =>
              clear k3 s3
              revert wc
              intro wd hcut
              obtain ⟨rfl, hbd⟩ := hcut
              have HBd := hide (bt HBc.out hbd)
              have Fd := hide (Fc.out.on hbd)
              have FSd := hide (FSc.out.on hbd)
              have FRd := hide (FRc.out.on hbd)
              have FCd := hide (FCc.out.on hbd)
              have HRd := hide (NumsAt.tch HRc.out (Touch.below (lo := 0) (hi := 0) hbd) (Nat.zero_le _))
              have hzd := hbd.size
              clear hbd HBc Fc FSc FRc FCc HRc
              have FIN : ∀ (W : World) (u3 u4 : Int), Touch (w.heap.size + 1) (w.heap.size + 1 + 1) wd W → Box W (w.heap.size + 1) (r5 q0 q1' (q2 + d) u3 u4) → u3 = t3 + (if misB B x cc then 1 else 0) → u4 = t4 + (if cc.st != 3 then 1 else 0) →
                  (Below w.heap.size w W ∧ w6.heap.size ≤ W.heap.size ∧ Box W w.heap.size #[.int .i64 B.now, .slice (some ⟨sb, so, none⟩) B.ss.length k0, .slice (some ⟨cb, co, none⟩) B.cs.length k1, .slice a2 B.bs.length k2] ∧ Box W wo.heap.size #[.string x.nm, .int .i64 x.ve, .bool x.gn, .int .i64 x.im, .int .i64 x.wa, .int .i64 x.dn, .int .i64 x.ov, .int .i64 x.nx, .int .i64 x.pr, .int .i64 x.ls, .int .i64 x.ms, .int .i64 x.ld, .int .i64 x.cl] ∧ NumsAt W w5.heap.size (some ⟨g, 0, none⟩) P ∧ Box W (w.heap.size + 1) (r5 q0 q1' (q2 + d) (q3 + (((getP B.cs (P.take (j + 1))).filter (misB B x)).length : Nat)) (q4 + (((getP B.cs (P.take (j + 1))).filter fun c => c.st != 3).length : Nat)))) := fun W u3 u4 ht hb e3 e4 => by
                have hz := ht.size
                refine ⟨HBd.out.trans ((ht.under (by omega)).mono (by omega)), by omega, Fd.out.tch ht (by omega), FSd.out.tch ht (by omega), HRd.out.tch ht (by omega), ?_⟩
                rw [C3.out, C4.out]
                have x3 : q3 + (((y3 + if misB B x cc = true then 1 else 0) : Nat) : Int) = u3 := by rw [e3, HT3.out]; split <;> simp <;> omega
                have x4 : q4 + (((y4 + if (cc.st != 3) = true then 1 else 0) : Nat) : Int) = u4 := by rw [e4, HT4.out]; split <;> simp <;> omega
                rw [x3, x4]
                exact hb
              have HFIN := hide FIN
              clear FIN
              have k4 := FCd.out.cell 4
              have m3 := FRd.out.cell 3
              have m4 := FRd.out.cell 4
              have ff := FRd.out.free
              have k4s : ∀ u, (wd.setCell ⟨w.heap.size + 1, 3, none⟩ u).cell? ⟨wq.heap.size, 4, none⟩ = some (.int .i64 cc.st) := fun u => by rw [(FCd.out.setFar (p := ⟨w.heap.size + 1, 3, none⟩) (by simp only []; omega) u).cell 4]; rfl
              have m4s : ∀ u, (wd.setCell ⟨w.heap.size + 1, 3, none⟩ u).cell? ⟨w.heap.size + 1, 4, none⟩ = some (.int .i64 t4) := fun u => by rw [(FRd.out.set (k := 3) u (by simp)).cell 4]; rfl
              have ffs : ∀ p u i, (wd.setCell p u).frozen? ⟨w.heap.size + 1, i, none⟩ = false := fun p u i => by rw [World.frozen?_setCell]; exact FRd.out.free i
              simp at k4 m3 m4
              have v3 : IntKind.i64.wrap (t3 + 1) = t3 + 1 := by rw [IntWalk.i64_left]; unfold wrap64; omega
              have v4 : IntKind.i64.wrap (t4 + 1) = t4 + 1 := by rw [IntWalk.i64_left]; unfold wrap64; omega
              cases hm : misB B x cc with
              | true =>
                cases hst : (cc.st != 3) with
                | true =>
                  go_wp2
                  go_roundw
                  case rel => exact ⟨j + 1, by go_num, by omega, HFIN.out _ (t3 + 1) (t4 + 1) ((Touch.setB _ _ _ _).trans (Touch.setB _ _ _ _)) ((FRd.out.set (k := 3) (.int .i64 (t3 + 1)) (by simp)).set (k := 4) (.int .i64 (t4 + 1)) (by simp)) (by rw [hm]; rfl) (by rw [hst]; rfl)⟩
                  case measure => simp [intOf]; omega
                | false =>
                  go_wp2
                  go_roundw
                  case rel => exact ⟨j + 1, by go_num, by omega, HFIN.out _ (t3 + 1) t4 (Touch.setB _ _ _ _) (FRd.out.set (k := 3) (.int .i64 (t3 + 1)) (by simp)) (by rw [hm]; rfl) (by rw [hst]; simp)⟩
                  case measure => simp [intOf]; omega
              | false =>
                cases hst : (cc.st != 3) with
                | true =>
                  go_wp2
                  go_roundw
                  case rel => exact ⟨j + 1, by go_num, by omega, HFIN.out _ t3 (t4 + 1) (Touch.setB _ _ _ _) (FRd.out.set (k := 4) (.int .i64 (t4 + 1)) (by simp)) (by rw [hm]; simp) (by rw [hst]; rfl)⟩
                  case measure => simp [intOf]; omega
                | false =>
                  go_wp2
                  go_roundw
                  case rel => exact ⟨j + 1, by go_num, by omega, HFIN.out _ t3 t4 (Touch.refl _ _ _) FRd.out (by rw [hm]; simp) (by rw [hst]; simp)⟩
                  case measure => simp [intOf]; omega
            · have hje : j = P.length := by omega
              subst hje
              rw [List.take_length, PL.out] at FRq
              have FRk : Hid (Box wq (w.heap.size + 1) (r5 (sumL sh0 (B.ss.take (k + 1))) (sumL (sh1 B) (B.ss.take (k + 1))) (sumL (sh2 B) (B.ss.take (k + 1))) (sumL (sq3 B) (B.ss.take (k + 1))) (sumL (sq4 B) (B.ss.take (k + 1))))) := by
                unfold Hid
                rw [T0.out, T1.out, T2.out, T3.out, T4.out, E0.out, E1.out, E3.out, E4.out, HD.out, Int.add_zero, ← EQ1.out]
                exact FRq.out
              go_wp2
              go_roundw
              case rel => exact ⟨k + 1, by go_num, by omega, HBq.out, Fq.out, FRk.out⟩
              case measure => simp [intOf]; omega
    · have hke : k = B.ss.length := by omega
      subst hke
      rw [List.take_length] at FR
      have p1 := F1.out.cell 1
      simp at p1
      go_wp2
      go_ret
      exact ⟨rfl, HB.out, FR.out⟩
end Go.Proofs.YtemggnmooiaokaaGreat
