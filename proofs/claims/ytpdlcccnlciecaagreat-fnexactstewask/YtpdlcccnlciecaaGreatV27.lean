import Derived.Test.YtpdlcccnlciecaaGreatV26
namespace Go.Proofs.YtpdlcccnlciecaaGreat
open Go.RowKit Go.Deep

theorem Box.tcf {w w' : World} {β lo hi : Nat} {cs : Array Value} (h : Box w β cs) (ht : Touch lo hi w w') (ho : β < lo ∨ hi ≤ β) : Box w' β cs :=
  ⟨Nat.lt_of_lt_of_le h.lt ht.size, fun i => (ht.cell (p := ⟨β, i, none⟩) h.lt ho).trans (h.cell i), fun i => (ht.frozen (p := ⟨β, i, none⟩) h.lt ho).trans (h.free i)⟩
theorem fstC_step {B : Sb} {im : Int} {L : List Cp} {b c : Cp} (h : fstC B im L = some b) : fstC B im (L ++ [c]) = some (pickC B im b c) := by
  cases L with
  | nil => cases h
  | cons a L =>
    simp only [fstC, Option.some.injEq] at h
    simp only [List.cons_append, fstC, List.foldl_append, List.foldl_cons, List.foldl_nil]
    rw [h]

set_option maxRecDepth 100000 in
set_option maxHeartbeats 16000000 in
theorem l16First_any (lo base : Nat) (sv cv bv lv : Value) (B : Sb) (x : Sv) (P : List Nat) (w : World) (h : SbAt lo w sv cv bv B) (hp : IRow w base lv P) (hP : ∀ i ∈ P, i < B.cs.length) (hl : P.length ≤ 200) :
    Calls Tryz.prog 64 #[.agg #[.int .i64 B.now, sv, cv, bv], .agg #[.string x.nm, .int .i64 x.ve, .bool x.gn, .int .i64 x.im, .int .i64 x.wa, .int .i64 x.dn, .int .i64 x.ov, .int .i64 x.nx, .int .i64 x.pr, .int .i64 x.ls, .int .i64 x.ms, .int .i64 x.ld, .int .i64 x.cl], lv] w fun e w' => ∃ v, e = .returned v ∧ Below w.heap.size w w' ∧ ERow w' w.heap.size v (fstE B x.im (getP B.cs P)) := by
  have HK := hide h
  have HP := hide hp
  have HM := hide hP
  obtain ⟨a0, k0, rfl⟩ := h.svs.form
  obtain ⟨a1, k1, rfl⟩ := h.cps.form
  obtain ⟨a2, k2, rfl⟩ := h.bes.form
  obtain ⟨a3, k3, rfl⟩ := hp.form
  clear h hp hP
  go_enter Tryz.func64, Tryz.ntmps64
  by_cases h0 : P.length = 0
  · have HPE : Hid (P = []) := List.eq_nil_of_length_eq_zero h0
    have hz : ((P.length : Int) == 0) = true := by simp [h0]
    clear h0
    go_wp2
    go_ret
    refine ⟨_, rfl, ((one_al w _).alloc (by simp) _).alloc (by simp; omega) _, ?_⟩
    rw [HPE.out]
    exact ownsB_made _ _ _ _ (by simp) (by omega)
  · have hz : ((P.length : Int) == 0) = false := by rw [beq_eq_false_iff_ne]; omega
    obtain ⟨g, cap, hge, hg1, -, hgc0⟩ := HP.out.at (i := 0) (by omega)
    injection hge with hga hgl hgk
    subst hga hgk
    clear hgl
    have hl0 : 0 < P.length := by omega
    have hcj : P[0] < B.cs.length := HM.out _ (List.getElem_mem hl0)
    obtain ⟨cb, co, rfl, hcb, -, hcc⟩ := HK.out.cps.full' (by omega)
    have HCC := hide hcc
    have HC0 := hide (hcc P[0] hcj).2
    have HG : Hid (getP B.cs (P.take 1) = [B.cs[P[0]]]) := by
      have := getP_step (L := B.cs) (P := P) (j := 0) hl0 hcj
      unfold Hid
      rw [this]
      rfl
    clear hcc
    obtain ⟨cc, hcq⟩ : ∃ c, c = B.cs[P[0]] := ⟨_, rfl⟩
    rw [← hcq] at HC0 HG
    clear hcq
    obtain ⟨q, hq⟩ : ∃ q, q = P[0] := ⟨_, rfl⟩
    rw [← hq] at HC0 hgc0 hcj
    clear hq
    go_wp2_with fail
    generalize hWa : World.alloc (w.alloc _) _ = Wa
    have HB : Hid (Below w.heap.size w Wa) := by unfold Hid; rw [← hWa]; exact (one_al w _).alloc (by simp) _
    have F1 : Hid (Box Wa w.heap.size #[.int .i64 B.now, .slice a0 B.ss.length k0, .slice (some ⟨cb, co, none⟩) B.cs.length k1, .slice a2 B.bs.length k2]) := by unfold Hid; rw [← hWa]; exact (Box.new _ _ _ _ rfl).on (one_al _ _)
    have FS : Hid (Box Wa (w.heap.size + 1) #[.string x.nm, .int .i64 x.ve, .bool x.gn, .int .i64 x.im, .int .i64 x.wa, .int .i64 x.dn, .int .i64 x.ov, .int .i64 x.nx, .int .i64 x.pr, .int .i64 x.ls, .int .i64 x.ms, .int .i64 x.ld, .int .i64 x.cl]) := by unfold Hid; rw [← hWa]; exact Box.new _ _ _ _ (by simp)
    have hsz : w.heap.size + 2 ≤ Wa.heap.size ∧ Wa.heap.size ≤ w.heap.size + 2 := by rw [← hWa]; simp
    clear hWa
    obtain ⟨c0, c1, c2, c3, c4, c5, c6⟩ := HC0.out.below HB.out hcb
    have hgr : g < Wa.heap.size := by omega
    have hgc := (HB.out.cell (p := ⟨g, 0, none⟩) hg1).trans hgc0
    have hcz : cb < Wa.heap.size := by omega
    have hbw := F1.out.lt
    have p2 := F1.out.cell 2
    simp at p2
    have p2a : ∀ o, (Wa.alloc o).cell? ⟨w.heap.size, 2, none⟩ = _ := fun o => (cell_alloc_lt _ _ _ _ hbw).trans p2
    have gca : ∀ o, (Wa.alloc o).cell? ⟨g, 0, none⟩ = _ := fun o => (cell_alloc_lt _ _ _ _ hgr).trans hgc
    have c0a : ∀ o, (Wa.alloc o).cell? _ = _ := fun o => (cell_alloc_lt _ _ _ _ hcz).trans c0
    have c1a : ∀ o, (Wa.alloc o).cell? _ = _ := fun o => (cell_alloc_lt _ _ _ _ hcz).trans c1
    have c2a : ∀ o, (Wa.alloc o).cell? _ = _ := fun o => (cell_alloc_lt _ _ _ _ hcz).trans c2
    have c3a : ∀ o, (Wa.alloc o).cell? _ = _ := fun o => (cell_alloc_lt _ _ _ _ hcz).trans c3
    have c4a : ∀ o, (Wa.alloc o).cell? _ = _ := fun o => (cell_alloc_lt _ _ _ _ hcz).trans c4
    have c5a : ∀ o, (Wa.alloc o).cell? _ = _ := fun o => (cell_alloc_lt _ _ _ _ hcz).trans c5
    have c6a : ∀ o, (Wa.alloc o).cell? _ = _ := fun o => (cell_alloc_lt _ _ _ _ hcz).trans c6
    have g0 : (0 : Int) ≤ (q : Int) := by omega
    have g1' : (q : Int) < (B.cs.length : Int) := by omega
    have n1' : (0 : Int) < (P.length : Int) := by omega
    go_cut [7] from 13 to 19 (fun v wc => v = .pointer (some ⟨Wa.heap.size, 0, none⟩) ∧ Below Wa.heap.size Wa wc ∧ Box wc Wa.heap.size #[.string cc.se, .int .i64 cc.nu, .int .i64 cc.ve, .int .i64 cc.im, .int .i64 cc.st, .bool cc.en, .string cc.be])
    case first =>
      go_region
      all_goals go_wp2
      all_goals go_meet
      all_goals exact ⟨rfl, ((one_al _ _).drew), (Box.new _ _ _ _ rfl).drew⟩
    case rest =>
    revert wc
    intro w1 hcut
    obtain ⟨rfl, hb1, hf1⟩ := hcut
    replace HB := hide (bt HB.out hb1)
    replace F1 := hide (F1.out.on hb1)
    replace FS := hide (FS.out.on hb1)
    have FB := hide hf1
    have hz1 := hb1.size
    have HF : Hid (fstC B x.im (getP B.cs (P.take 1)) = some cc) := by unfold Hid; rw [HG.out]; rfl
    clear hb1 hf1 c0 c1 c2 c3 c4 c5 c6 c0a c1a c2a c3a c4a c5a c6a p2 p2a gca hgc hgc0 HC0 HG hcj g0 g1' hz
    go_wp2
    go_loopw [8] (fun i wr => ∃ (j : Nat) (b : Cp), i = .int .i64 j ∧ 1 ≤ j ∧ j ≤ P.length ∧ Below w.heap.size w wr ∧ w.heap.size + 2 < wr.heap.size ∧ Box wr w.heap.size #[.int .i64 B.now, .slice a0 B.ss.length k0, .slice (some ⟨cb, co, none⟩) B.cs.length k1, .slice a2 B.bs.length k2] ∧ Box wr (w.heap.size + 1) #[.string x.nm, .int .i64 x.ve, .bool x.gn, .int .i64 x.im, .int .i64 x.wa, .int .i64 x.dn, .int .i64 x.ov, .int .i64 x.nx, .int .i64 x.pr, .int .i64 x.ls, .int .i64 x.ms, .int .i64 x.ld, .int .i64 x.cl] ∧ Box wr Wa.heap.size #[.string b.se, .int .i64 b.nu, .int .i64 b.ve, .int .i64 b.im, .int .i64 b.st, .bool b.en, .string b.be] ∧ fstC B x.im (getP B.cs (P.take j)) = some b) (fun i _ => P.length - (intOf i).toNat)
    case atStart => exact ⟨1, cc, rfl, Nat.le_refl _, by omega, HB.out, by have := FB.out.lt; omega, F1.out, FS.out, FB.out, HF.out⟩
    case round =>
      obtain ⟨j, b, rfl, hj1, hj, hb, hzr, hf, hs, hfb, hfst⟩ := hrel
      replace HB := hide hb
      replace F1 := hide hf
      replace FS := hide hs
      replace FB := hide hfb
      replace HF := hide hfst
      clear hb hf hs hfb hfst
      by_cases hlt : j < P.length
      · obtain ⟨g', cap', hge', -, -, hgc0⟩ := HP.out.at hlt
        injection hge' with hga' hgl' hgk'
        injection hga' with hga'
        injection hga' with hga'
        subst hga'
        clear hgl' hgk'
        have hgc := (HB.out.cell (p := ⟨g, j, none⟩) hg1).trans hgc0
        have hcj : P[j] < B.cs.length := HM.out _ (List.getElem_mem hlt)
        obtain ⟨c0, c1, c2, c3, c4, c5, c6⟩ := (HCC.out P[j] hcj).2.below HB.out hcb
        have HST := hide (getP_step (L := B.cs) hlt hcj)
        obtain ⟨c, hcq⟩ : ∃ c, c = B.cs[P[j]] := ⟨_, rfl⟩
        rw [← hcq] at c0 c1 c2 c3 c4 c5 c6 HST
        clear hcq
        obtain ⟨q', hq⟩ : ∃ q, q = P[j] := ⟨_, rfl⟩
        rw [← hq] at c0 c1 c2 c3 c4 c5 c6 hgc hcj
        clear hq hgc0
        have HSN : Hid (fstC B x.im (getP B.cs (P.take (j + 1))) = some (pickC B x.im b c)) := by unfold Hid; rw [HST.out]; exact fstC_step HF.out
        have j0 : (0 : Int) ≤ (j : Int) := by omega
        have j1' : (j : Int) < (P.length : Int) := by omega
        have g0 : (0 : Int) ≤ (q' : Int) := by omega
        have g1' : (q' : Int) < (B.cs.length : Int) := by omega
        go_wp2_with fail
        go_cut [38] from 26 to 38 (fun v wc => v = .bool (sooB B x.im c b) ∧ Below wr.heap.size wr wc)
        case first =>
          have xn : Nonempty (In (Up wr)) := ⟨⟨wr, Below.refl _ _⟩⟩
          have xs := fun (Y : In (Up wr)) => in_self Y
          have p0 : ∀ Y : In (Up wr), _ := fun Y => Up.cell Y (F1.out.cell 0)
          have p1 : ∀ Y : In (Up wr), _ := fun Y => Up.cell Y (F1.out.cell 1)
          have p2 : ∀ Y : In (Up wr), _ := fun Y => Up.cell Y (F1.out.cell 2)
          have p3 : ∀ Y : In (Up wr), _ := fun Y => Up.cell Y (F1.out.cell 3)
          have d0 : ∀ Y : In (Up wr), _ := fun Y => Up.cell Y c0
          have d1 : ∀ Y : In (Up wr), _ := fun Y => Up.cell Y c1
          have d2 : ∀ Y : In (Up wr), _ := fun Y => Up.cell Y c2
          have d3 : ∀ Y : In (Up wr), _ := fun Y => Up.cell Y c3
          have d4 : ∀ Y : In (Up wr), _ := fun Y => Up.cell Y c4
          have d5 : ∀ Y : In (Up wr), _ := fun Y => Up.cell Y c5
          have d6 : ∀ Y : In (Up wr), _ := fun Y => Up.cell Y c6
          have b0 : ∀ Y : In (Up wr), _ := fun Y => Up.cell Y (FB.out.cell 0)
          have b1 : ∀ Y : In (Up wr), _ := fun Y => Up.cell Y (FB.out.cell 1)
          have b2 : ∀ Y : In (Up wr), _ := fun Y => Up.cell Y (FB.out.cell 2)
          have b3 : ∀ Y : In (Up wr), _ := fun Y => Up.cell Y (FB.out.cell 3)
          have b4 : ∀ Y : In (Up wr), _ := fun Y => Up.cell Y (FB.out.cell 4)
          have b5 : ∀ Y : In (Up wr), _ := fun Y => Up.cell Y (FB.out.cell 5)
          have b6 : ∀ Y : In (Up wr), _ := fun Y => Up.cell Y (FB.out.cell 6)
          have s3 : ∀ Y : In (Up wr), _ := fun Y => Up.cell Y (FS.out.cell 3)
          have l0 : ∀ Y : In (Up wr), _ := fun Y => Up.cell Y hgc
          simp at p0 p1 p2 p3 b0 b1 b2 b3 b4 b5 b6 s3
          refine wp_region_class (Up wr) (by kernel_rfl) (by kernel_rfl) ((Below.refl _ _).drew) ?_
          repeat (go_big_quiet_step (first | (go_at_call 82; rename_i Y; exact (l16Sooner_any lo _ _ _ B c b x.im _ (HK.out.below (bt HB.out Y.h))).mono fun _ _ h => ⟨h.1, Up.next Y h.2⟩)))
          refine wpQuiet_nil ?_
          intro wn hw
          obtain ⟨Y, hY⟩ := hw
          have HWN : Below wr.heap.size wr wn := by rw [hY]; exact Y.h
          clear hY Y p0 p1 p2 p3 d0 d1 d2 d3 d4 d5 d6 b0 b1 b2 b3 b4 b5 b6 s3 l0 xs xn
          go_wp2
          go_meet
          exact ⟨rfl, HWN⟩
        case rest =>
        revert wc
        intro w2 hcut
        obtain ⟨rfl, hb2⟩ := hcut
        have HB2 := hide (bt HB.out hb2)
        have F2 := hide (F1.out.on hb2)
        have FS2 := hide (FS.out.on hb2)
        have FB2 := hide (FB.out.on hb2)
        have hz2 := hb2.size
        have hcz : cb < wr.heap.size := by omega
        have hgz : g < wr.heap.size := by omega
        replace hgc := (hb2.cell (p := ⟨g, j, none⟩) hgz).trans hgc
        replace c0 := (hb2.cell (p := ⟨cb, _, none⟩) hcz).trans c0
        replace c1 := (hb2.cell (p := ⟨cb, _, none⟩) hcz).trans c1
        replace c2 := (hb2.cell (p := ⟨cb, _, none⟩) hcz).trans c2
        replace c3 := (hb2.cell (p := ⟨cb, _, none⟩) hcz).trans c3
        replace c4 := (hb2.cell (p := ⟨cb, _, none⟩) hcz).trans c4
        replace c5 := (hb2.cell (p := ⟨cb, _, none⟩) hcz).trans c5
        replace c6 := (hb2.cell (p := ⟨cb, _, none⟩) hcz).trans c6
        clear hb2 HB F1 FS FB
        cases hso : sooB B x.im c b with
        | false =>
          have HN : Hid (pickC B x.im b c = b) := by unfold Hid pickC; rw [hso]; rfl
          go_wp2
          go_roundw
          case rel => exact ⟨j + 1, b, by go_num, by omega, by omega, HB2.out, by omega, F2.out, FS2.out, FB2.out, by rw [HSN.out, HN.out]⟩
          case measure => simp [intOf]; omega
        | true =>
          have HN : Hid (pickC B x.im b c = c) := by unfold Hid pickC; rw [hso]; rfl
          have p2 := F2.out.cell 2
          simp at p2
          have bb := FB2.out.cell
          have bf := FB2.out.free
          go_wp2_with fail
          have HBX : Hid (Box (((((((w2.setCell ⟨Wa.heap.size, 0, none⟩ (.string c.se)).setCell ⟨Wa.heap.size, 1, none⟩ (.int .i64 c.nu)).setCell ⟨Wa.heap.size, 2, none⟩ (.int .i64 c.ve)).setCell ⟨Wa.heap.size, 3, none⟩ (.int .i64 c.im)).setCell ⟨Wa.heap.size, 4, none⟩ (.int .i64 c.st)).setCell ⟨Wa.heap.size, 5, none⟩ (.bool c.en)).setCell ⟨Wa.heap.size, 6, none⟩ (.string c.be)) Wa.heap.size #[.string c.se, .int .i64 c.nu, .int .i64 c.ve, .int .i64 c.im, .int .i64 c.st, .bool c.en, .string c.be]) := (((((((FB2.out.set (k := 0) (.string c.se) (by simp)).set (k := 1) (.int .i64 c.nu) (by simp)).set (k := 2) (.int .i64 c.ve) (by simp)).set (k := 3) (.int .i64 c.im) (by simp)).set (k := 4) (.int .i64 c.st) (by simp)).set (k := 5) (.bool c.en) (by simp)).set (k := 6) (.string c.be) (by simp))
          have HTX : Hid (Touch Wa.heap.size (Wa.heap.size + 1) w2 (((((((w2.setCell ⟨Wa.heap.size, 0, none⟩ (.string c.se)).setCell ⟨Wa.heap.size, 1, none⟩ (.int .i64 c.nu)).setCell ⟨Wa.heap.size, 2, none⟩ (.int .i64 c.ve)).setCell ⟨Wa.heap.size, 3, none⟩ (.int .i64 c.im)).setCell ⟨Wa.heap.size, 4, none⟩ (.int .i64 c.st)).setCell ⟨Wa.heap.size, 5, none⟩ (.bool c.en)).setCell ⟨Wa.heap.size, 6, none⟩ (.string c.be))) := ((((((((Touch.refl (Wa.heap.size) (Wa.heap.size + 1) w2).trans (Touch.setB _ _ _ _)).trans (Touch.setB _ _ _ _)).trans (Touch.setB _ _ _ _)).trans (Touch.setB _ _ _ _)).trans (Touch.setB _ _ _ _)).trans (Touch.setB _ _ _ _)).trans (Touch.setB _ _ _ _))
          go_region
          all_goals
            go_wp2
            generalize (((((((w2.setCell ⟨Wa.heap.size, 0, none⟩ (.string c.se)).setCell ⟨Wa.heap.size, 1, none⟩ (.int .i64 c.nu)).setCell ⟨Wa.heap.size, 2, none⟩ (.int .i64 c.ve)).setCell ⟨Wa.heap.size, 3, none⟩ (.int .i64 c.im)).setCell ⟨Wa.heap.size, 4, none⟩ (.int .i64 c.st)).setCell ⟨Wa.heap.size, 5, none⟩ (.bool c.en)).setCell ⟨Wa.heap.size, 6, none⟩ (.string c.be)) = w3 at *
            have HTD : Touch Wa.heap.size (Wa.heap.size + 1) w2 w3.drew := HTX.out.trans (Touch.below ((Below.refl _ _).drew))
            have hz3 := HTD.size
            refine ⟨⟨j + 1, c, by go_num, by omega, by omega, HB2.out.trans ((HTD.under (by omega)).mono (by omega)), by omega, F2.out.tcf HTD (by omega), FS2.out.tcf HTD (by omega), HBX.out.drew, by rw [HSN.out, HN.out]⟩, ?_⟩
            simp [intOf]
            omega
      · have hje : j = P.length := by omega
        subst hje
        rw [List.take_length] at HF
        have HE : Hid (fstE B x.im (getP B.cs P) = [enOf b]) := by unfold Hid fstE; rw [HF.out]; rfl
        have b1 := FB.out.cell 1
        have b2 := FB.out.cell 2
        simp at b1 b2
        go_wp2
        go_ret
        refine ⟨_, rfl, bt HB.out (one_al _ _), ?_⟩
        rw [HE.out]
        exact ⟨rfl, Or.inr ⟨wr.heap.size, 1, #[.int .i64 b.nu, .int .i64 b.ve], rfl, HB.out.size, heap_alloc_new _ _, Nat.le_refl _, by unfold maxLen; omega, rfl, rfl⟩⟩
end Go.Proofs.YtpdlcccnlciecaaGreat
