import Derived.Test.YtjkkbkdpoebfaaaGreatV47
namespace Go.Proofs.YtjkkbkdpoebfaaaGreat
open Go.RowKit Go.Deep

theorem sh_round (L : List SX) (k : Nat) (hk : k < L.length) (L' : List SX) (h : L'.map SX.sh = roundS ((L.take k).map SX.sh)) (fv : Value) : (L' ++ [(⟨fv, L[k].kd, L[k].fs.reverse⟩ : SX)]).map SX.sh = roundS ((L.take (k + 1)).map SX.sh) := by
  rw [List.take_succ_eq_append_getElem hk, List.map_append, List.map_append, h]
  unfold roundS
  rw [List.map_append]
  congr 1
  simp [SX.sh, revSh, List.map_reverse]

set_option maxRecDepth 20000 in
set_option maxHeartbeats 8000000 in
theorem wgRound_any (lo : Nat) (v : Value) (L : List SX) (w : World) (hS : ShsG lo v L w) (hL : L.length ≤ 10) (hlo : lo ≤ w.heap.size) :
    Calls Tryz.prog 14 #[v] w fun e w' => ∃ (v' : Value) (L' : List SX), e = .returned v' ∧ ShsG lo v' L' w' ∧ L'.map SX.sh = roundS (L.map SX.sh) ∧ Below w.heap.size w w' := by
  obtain ⟨i1, f1, f2, f3, f4⟩ := info_parts fieldInfo
  obtain ⟨i2, s1, s2, s3, s4⟩ := info_parts shapeInfo
  have HI1 := hide (And.intro f1 (And.intro f2 (And.intro f3 f4)))
  have HI2 := hide (And.intro s1 (And.intro s2 (And.intro s3 s4)))
  clear f1 f2 f3 f4 s1 s2 s3 s4
  have HSG := hide hS
  obtain ⟨va, vc, rfl⟩ := ZRw.form hS
  clear hS
  go_enter Tryz.func14, Tryz.ntmps14
  go_upto_region 2 with fail
  generalize hW1 : w.alloc _ = w1
  have HB : Hid (Below w.heap.size w w1) := by unfold Hid; rw [← hW1]; exact one_al _ _
  have HO : Hid (ShsG lo (.slice (some ⟨w.heap.size, 0, none⟩) 0 0) [] w1) := by unfold Hid; rw [← hW1]; exact ZRw.made w _ rfl hlo
  clear hW1
  go_wp2
  go_loopw [3, 4] (fun v i wr => ∃ (k : Nat) (L' : List SX), i = .int .i64 k ∧ k ≤ L.length ∧ L'.map SX.sh = roundS ((L.take k).map SX.sh) ∧ ShsG lo v L' wr ∧ (∀ b, v.ownBlock = some b → w.heap.size ≤ b) ∧ Below w.heap.size w wr) (fun _ i _ => L.length - (intOf i).toNat)
  case atStart => exact ⟨0, [], rfl, Nat.zero_le _, rfl, HO.out, fun b hb => by have := own_at hb; omega, HB.out⟩
  case round =>
    obtain ⟨k, L', rfl, hk, hmap, hG, hnb, hb⟩ := hrel
    have HMP := hide hmap
    replace HO := hide hG
    have HNB := hide hnb
    replace HB := hide hb
    have hL'k : L'.length = k := by
      have h1 := congrArg List.length hmap
      simp [roundS] at h1
      omega
    have hL10 : L'.length ≤ 10 := by omega
    clear hL'k
    obtain ⟨oa, oc, rfl⟩ := ZRw.form hG
    clear hmap hG hnb hb
    by_cases hkl : k < L.length
    · obtain ⟨sb, rfl⟩ : ∃ sb, va = some ⟨sb, 0, none⟩ := by
        rcases HSG.out.own.2 with ⟨hv, hn⟩ | ⟨g, cap', cur, hv, _⟩
        · omega
        · cases hv; exact ⟨_, rfl⟩
      have HSr := hide (ZRw.below sh_keeps HSG.out HB.out)
      obtain ⟨-, hsb, -, k0⟩ := ZRw.cell HSr.out shC_len hkl (j := 0) (by omega)
      obtain ⟨-, -, -, k1⟩ := ZRw.cell HSr.out shC_len hkl (j := 1) (by omega)
      obtain ⟨KX, hP, hKX⟩ := HSG.out.inn _ (List.getElem_mem hkl)
      have hsbw : sb < w.heap.size := (owns_lt HSG.out.own (g := sb) rfl).1
      have HSH : Hid (∀ fv, (L' ++ [(⟨fv, L[k].kd, L[k].fs.reverse⟩ : SX)]).map SX.sh = roundS ((L.take (k + 1)).map SX.sh)) := fun fv => sh_round L k hkl L' HMP.out fv
      have HC1 : Hid (w.cell? ⟨sb, k * 2 + 1, none⟩ = (shC L[k])[1]?) := (ZRw.cell HSG.out shC_len hkl (j := 1) (by omega)).2.2.2
      obtain ⟨⟨fv, kd, fs⟩, hx⟩ : ∃ x, L[k] = x := ⟨_, rfl⟩
      rw [hx] at k0 k1 hP HSH HC1
      simp only [shC, List.getElem?_cons_zero, List.getElem?_cons_succ, Nat.add_zero] at k0 k1 HC1
      have HP := hide hP
      have HKX := hide hKX
      have hfn : fs.length ≤ 10 := hP.n
      have HKD : Hid (kd.size ≤ 1000) := hP.kd
      obtain ⟨fa, fc, rfl⟩ : ∃ a c, fv = .slice a fs.length c := owns_form hP.own
      clear hP hKX hx HSr
      have hix : (k : Int) < (L.length : Int) := by omega
      go_upto_region 6 with fail
      clear k0
      generalize hW2 : wr.alloc _ = w2
      have hba : Below wr.heap.size wr w2 := by rw [← hW2]; exact one_al _ _
      have BS : Hid (Box w2 wr.heap.size #[.string kd, .slice none 0 0]) := by unfold Hid; rw [← hW2]; exact Box.new _ _ _ _ rfl
      have hzr := HB.out.size
      replace k1 : w2.cell? ⟨sb, k * 2 + 1, none⟩ = some (.slice fa fs.length fc) := (hba.cell (p := ⟨sb, _, none⟩) (by show sb < _; omega)).trans k1
      have HB2 : Hid (Below wr.heap.size wr w2) := hba
      have HOBL : Hid (∀ b, (Value.slice oa L'.length oc).ownBlock = some b → b < wr.heap.size) := fun b hb => (owns_lt HO.out.own hb).1
      have hl2 : sb < w2.heap.size := by have := hba.size; omega
      clear hW2 hba hsb
      obtain ⟨σ, hσ⟩ : ∃ σ, wr.heap.size = σ := ⟨_, rfl⟩
      rw [hσ] at BS HB2 HOBL hzr
      rw [hσ]
      have HSI := hide hσ
      clear hσ
      generalize wr = wR at *
      have hwf : wrap64 ((fs.length : Int) - 1) = (fs.length : Int) - 1 := by unfold wrap64; omega
      go_wp2
      clear k1 hwf hl2
      go_loopw [6] (fun j wi => ∃ (n : Nat) (fv : Value), j = .int .i64 ((n : Int) - 1) ∧ n ≤ fs.length ∧ Box wi σ #[.string kd, fv] ∧ wi.ownsRow lo 56 11 fv (fs.drop n).reverse.length (flatC fdC (fs.drop n).reverse) ∧ (∀ b, fv.ownBlock = some b → σ < b) ∧ Below σ wR wi) (fun j _ => (intOf j + 1).toNat)
      case atStart => exact ⟨fs.length, .slice none 0 0, rfl, Nat.le_refl _, BS.out, by rw [List.drop_length]; exact World.ownsRow_nil _ _ _ _, (fun b hb => by cases hb), HB2.out⟩
      case round =>
        obtain ⟨n, fv, rfl, hn, hbx, hfd, hnb, hbi⟩ := hrel
        have HBX := hide hbx
        have HFD := hide hfd
        have HNF := hide hnb
        have HBI := hide hbi
        obtain ⟨xa, xc, rfl⟩ := owns_form hfd
        have hσi : σ < wr.heap.size := hbx.lt
        have hRl : (fs.drop n).reverse.length = fs.length - n := by simp
        have HMK : Hid (∀ m, n = m + 1 → ∀ hm : m < fs.length, (fs.drop m).reverse = (fs.drop n).reverse ++ [fs[m]]) := fun m e hm => by subst e; rw [List.drop_eq_getElem_cons hm, List.reverse_cons]
        have HZR : Hid (Below w.heap.size w wr) := HB.out.trans (HBI.out.mono hzr)
        have HOi : Hid (ShsG lo (.slice oa L'.length oc) L' wr) := ZRw.below sh_keeps HO.out (by rw [HSI.out]; exact HBI.out)
        clear hbx hfd hnb hbi
        rcases n with _ | m
        · have HR0 : Hid ((fs.drop 0).reverse = fs.reverse) := by unfold Hid; rw [List.drop_zero]
          rw [HR0.out] at HFD HBX HNF hRl
          clear HMK HR0
          have HIN : Hid (∀ y ∈ fs.reverse, FdP KX w y) := fun y hy => HP.out.inn y (List.mem_reverse.1 hy)
          have hR10 : fs.reverse.length ≤ 10 := by rw [List.length_reverse]; exact hfn
          clear hRl
          generalize fs.reverse = R at *
          have c : ∀ i, wr.cell? ⟨σ, i, none⟩ = #[.string kd, .slice xa R.length xc][i]? := HBX.out.cell
          have cl := HBX.out.lt
          have HOA := hide (ZRw.below sh_keeps HOi.out (one_al wr (.cells #[.string kd, .slice xa R.length xc] 45)))
          have HFA := hide (owns_kept (W' := wr.alloc (.cells #[.string kd, .slice xa R.length xc] 45)) HFD.out fun q hq => (one_al wr _).block q (owns_lt HFD.out hq).1)
          have HZA : Hid ((wr.alloc (.cells #[.string kd, .slice xa R.length xc] 45)).heap.size = wr.heap.size + 1) := by unfold Hid; simp
          have hzi := HZR.out.size
          go_wp2_with (at_builtin; refine wpList_append_lies _ rfl (.tmp 44) (.tmp 46) 23 rfl lo 45 i2 (.agg #[.string ⟨#[]⟩, .slice none 0 0]) 2 40 Tryz.underlying23 HI2.out.1 HI2.out.2.1 HI2.out.2.2.1 HI2.out.2.2.2 rfl (by decide) _ _ _ rfl HOA.out.own ⟨wr.heap.size, 0, none⟩ 1 1 [.string kd, .slice xa R.length xc] rfl rfl (cells_new _ _ [.string kd, .slice xa R.length xc] _ rfl) (fun u hu => by simp at hu; rcases hu with rfl | rfl <;> rfl) (by decide) (by unfold maxLen; omega) (by omega) (by simp; omega) _ rfl ?_; intro g cap1 w9 hown hgrow hat hltg)
          clear c cl
          have hbg : Below w.heap.size _ w9 := grown_below HOA.out.own hgrow (by have := HZA.out; omega) HNB.out
          have hSP : ShP (fun q => KX q ∨ (Value.slice xa R.length xc).ownBlock = some q) (wr.alloc (.cells #[.string kd, .slice xa R.length xc] 45)) ⟨.slice xa R.length xc, kd, R⟩ :=
            ⟨HKD.out, hR10, owns_lo HFA.out (Nat.zero_le _), fun q hq => Or.inr hq, fun y hy => by
              have h1 := HIN.out y hy
              have h2 := fd_keeps KX w (wr.alloc (.cells #[.string kd, .slice xa R.length xc] 45)) y h1 fun q hq => ((HZR.out.trans ((one_al wr _).mono HZR.out.size)).block q (HKX.out q hq).2.1)
              exact ⟨h2.1, h2.2.mono fun q hq => Or.inl hq⟩⟩
          have HSN : Hid (ShsG lo (.slice (some ⟨g, 0, none⟩) (L'.length + 1) cap1) (L' ++ [⟨.slice xa R.length xc, kd, R⟩]) w9) := ZRw.app sh_keeps HOA.out _ _ hSP (fun q hq => by
            have h0 := HZA.out
            rcases hq with hq | hq
            · have h1 := HKX.out q hq
              exact ⟨h1.1, by omega, fun e => by have := HNB.out q e; omega⟩
            · have h1 := owns_lt HFD.out hq
              exact ⟨h1.2, by omega, fun e => by have h2 := HOBL.out q e; have h3 := HNF.out q hq; omega⟩) hown hgrow hat
          have HBN : Hid (Below w.heap.size w w9) := (HZR.out.trans ((one_al wr _).mono HZR.out.size)).trans hbg
          have HNN : Hid (∀ b, (Value.slice (some ⟨g, 0, none⟩) (L'.length + 1) cap1).ownBlock = some b → w.heap.size ≤ b) := fun b hb => by
            have e := own_at hb
            subst e
            rcases hat with hat | hat
            · exact HNB.out g hat
            · have h1 := HZA.out
              omega
          have HSQ := hide (HSH.out (.slice xa R.length xc))
          clear hSP hbg hown hgrow hat
          go_roundw
          case rel => exact ⟨k + 1, _, by go_num, by omega, HSQ.out, HSN.out, HNN.out, HBN.out⟩
          case measure => simp [intOf]; omega
        · have e : ((m + 1 : Nat) : Int) - 1 = (m : Int) := by omega
          rw [e]
          clear e
          have hm : m < fs.length := by omega
          have HMM := hide (HMK.out m rfl hm)
          obtain ⟨fg, rfl⟩ : ∃ fg, fa = some ⟨fg, 0, none⟩ := by
            rcases HP.out.own.2 with ⟨hv, hn⟩ | ⟨g, cap', cur, hv, _⟩
            · have : fs.length = 0 := hn
              omega
            · cases hv; exact ⟨_, rfl⟩
          have hfg : fg < w.heap.size := (HKX.out fg (HP.out.blk fg rfl)).2.1
          obtain ⟨⟨wvm, fm⟩, hfm⟩ : ∃ y, fs[m] = y := ⟨_, rfl⟩
          rw [hfm] at HMM
          have HFPm : Hid (FdP KX w (wvm, fm)) := by unfold Hid; rw [← hfm]; exact HP.out.inn _ (List.getElem_mem _)
          obtain ⟨wa, wn, wx, rfl⟩ := HFPm.out.2.form
          have KP : Hid (∀ W, Below w.heap.size w W → W.cell? ⟨sb, k * 2 + 1, none⟩ = some (.slice (some ⟨fg, 0, none⟩) fs.length fc) ∧ W.rangeAt fg (m * 11) (fdL fm (.slice wa wn wx))) := fun W hW => by
            have h1 := fsAt_of (W := W) (ρ := w.heap.size) HP.out (Tch.below hW) (by omega) m hm
            rw [hfm] at h1
            exact ⟨(hW.cell (p := ⟨sb, _, none⟩) hsbw).trans HC1.out, h1⟩
          clear hfm HMK
          have hmi : (m : Int) < (fs.length : Int) := by omega
          have hRn : (fs.drop (m + 1)).reverse.length + 1 ≤ 10 := by omega
          clear hRl
          generalize (fs.drop (m + 1)).reverse = R at *
          go_upto_region 9 with fail
          refine wp_region_B (S := fun W => W.cell? ⟨σ, 1, none⟩ = some (.slice xa R.length xc) ∧ W.cell? ⟨sb, k * 2 + 1, none⟩ = some (.slice (some ⟨fg, 0, none⟩) fs.length fc) ∧ W.rangeAt fg (m * 11) (fdL fm (.slice wa wn wx))) [13] (by kernel_rfl) ⟨HBX.out.drew.cell 1, KP.out _ HZR.out.drew⟩ (fun hHeld => ?_)
          refine wpAnyB_take [13] (i := 0) (v := .pointer (some ⟨σ, 1, none⟩)) rfl (by kernel_rfl) (by kernel_rfl) (by kernel_rfl) (by kernel_rfl) (fun _ _ _ h => h) (Or.inl ⟨by rfl, fun W hW => by obtain ⟨hq1, hq2, hq3⟩ := hW; go_simp⟩) hHeld ?_
          try simp only [Act.put, List.getElem_toArray, List.getElem_cons_zero, List.setIfInBounds_toArray, List.set_cons_zero, List.set_cons_succ]
          refine wpAnyB_take [13] (i := 1) (v := .slice xa R.length xc) rfl (by kernel_rfl) (by kernel_rfl) (by kernel_rfl) (by kernel_rfl) (fun _ _ _ h => h) (Or.inl ⟨by rfl, fun W hW => by obtain ⟨hq1, hq2, hq3⟩ := hW; go_simp⟩) hHeld ?_
          try simp only [Act.put, List.getElem_toArray, List.getElem_cons_succ, List.getElem_cons_zero, List.setIfInBounds_toArray, List.set_cons_zero, List.set_cons_succ]
          refine wpAnyB_take [13] (i := 2) (v := .slice (some ⟨sb, 0, none⟩) L.length vc) rfl (by kernel_rfl) (by kernel_rfl) (by kernel_rfl) (by kernel_rfl) (fun _ _ _ h => h) (Or.inl ⟨by rfl, fun W hW => by obtain ⟨hq1, hq2, hq3⟩ := hW; go_simp⟩) hHeld ?_
          try simp only [Act.put, List.getElem_toArray, List.getElem_cons_succ, List.getElem_cons_zero, List.setIfInBounds_toArray, List.set_cons_zero, List.set_cons_succ]
          refine wpAnyB_take [13] (i := 3) (v := .int .i64 (k : Int)) rfl (by kernel_rfl) (by kernel_rfl) (by kernel_rfl) (by kernel_rfl) (fun _ _ _ h => h) (Or.inl ⟨by rfl, fun W hW => by obtain ⟨hq1, hq2, hq3⟩ := hW; go_simp⟩) hHeld ?_
          try simp only [Act.put, List.getElem_toArray, List.getElem_cons_succ, List.getElem_cons_zero, List.setIfInBounds_toArray, List.set_cons_zero, List.set_cons_succ]
          refine wpAnyB_take [13] (i := 4) (v := .pointer (some ⟨sb, k * 2, none⟩)) rfl (by kernel_rfl) (by kernel_rfl) (by kernel_rfl) (by kernel_rfl) (fun _ _ _ h => h) (Or.inl ⟨by rfl, fun W hW => by obtain ⟨hq1, hq2, hq3⟩ := hW; go_simp⟩) hHeld ?_
          try simp only [Act.put, List.getElem_toArray, List.getElem_cons_succ, List.getElem_cons_zero, List.setIfInBounds_toArray, List.set_cons_zero, List.set_cons_succ]
          refine wpAnyB_take [13] (i := 5) (v := .pointer (some ⟨sb, k * 2 + 1, none⟩)) rfl (by kernel_rfl) (by kernel_rfl) (by kernel_rfl) (by kernel_rfl) (fun _ _ _ h => h) (Or.inl ⟨by rfl, fun W hW => by obtain ⟨hq1, hq2, hq3⟩ := hW; go_simp⟩) hHeld ?_
          try simp only [Act.put, List.getElem_toArray, List.getElem_cons_succ, List.getElem_cons_zero, List.setIfInBounds_toArray, List.set_cons_zero, List.set_cons_succ]
          refine wpAnyB_take [13] (i := 6) (v := .slice (some ⟨fg, 0, none⟩) fs.length fc) rfl (by kernel_rfl) (by kernel_rfl) (by kernel_rfl) (by kernel_rfl) (fun _ _ _ h => h) (Or.inl ⟨by rfl, fun W hW => by obtain ⟨hq1, hq2, hq3⟩ := hW; go_simp⟩) hHeld ?_
          try simp only [Act.put, List.getElem_toArray, List.getElem_cons_succ, List.getElem_cons_zero, List.setIfInBounds_toArray, List.set_cons_zero, List.set_cons_succ]
          refine wpAnyB_take [13] (i := 7) (v := .int .i64 (m : Int)) rfl (by kernel_rfl) (by kernel_rfl) (by kernel_rfl) (by kernel_rfl) (fun _ _ _ h => h) (Or.inl ⟨by rfl, fun W hW => by obtain ⟨hq1, hq2, hq3⟩ := hW; go_simp⟩) hHeld ?_
          try simp only [Act.put, List.getElem_toArray, List.getElem_cons_succ, List.getElem_cons_zero, List.setIfInBounds_toArray, List.set_cons_zero, List.set_cons_succ]
          refine wpAnyB_take [13] (i := 8) (v := .pointer (some ⟨fg, m * 11, none⟩)) rfl (by kernel_rfl) (by kernel_rfl) (by kernel_rfl) (by kernel_rfl) (fun _ _ _ h => h) (Or.inl ⟨by rfl, fun W hW => by obtain ⟨hq1, hq2, hq3⟩ := hW; go_simp⟩) hHeld ?_
          try simp only [Act.put, List.getElem_toArray, List.getElem_cons_succ, List.getElem_cons_zero, List.setIfInBounds_toArray, List.set_cons_zero, List.set_cons_succ]
          refine wpAnyB_take [13] (i := 9) rfl (by kernel_rfl) (by kernel_rfl) (by kernel_rfl) (by kernel_rfl) (fun _ _ _ h => h) (yieldsIf_load_mid (by rfl) 56 (.tmp 39) rfl fg (m * 11) rfl (fdL fm (.slice wa wn wx)) _ (fun _ h => h.2.2) Tryz.underlying56 rfl Fd_sizeI) hHeld ?_
          unfold fdL
          try simp only [Act.put, List.getElem_toArray, List.getElem_cons_succ, List.getElem_cons_zero, List.setIfInBounds_toArray, List.set_cons_zero, List.set_cons_succ]
          refine wpAnyB_one (i := 10) (by kernel_rfl) rfl (fun KK hK => ?_)
          go_simp
          obtain ⟨wc', hwc⟩ : ∃ vv, vv = World.drew (World.alloc wr (.cells #[.string fm.nm, .int .i64 fm.kd, .int .i64 fm.le, .int .i64 fm.mo, .slice wa wn wx, .string fm.to, .int .i64 fm.ro, .bool fm.mu, .bool fm.fx, .string fm.df, .string fm.we] 56)) := ⟨_, rfl⟩
          rw [← hwc]
          have hb : Below wr.heap.size wr wc' := by rw [hwc]; exact (one_al _ _).drew
          have HNW : Hid (∀ j x, (fdL fm (.slice wa wn wx))[j]? = some x → wc'.cell? ((⟨wr.heap.size, 0, none⟩ : Addr).add j) = some x) := by unfold Hid; rw [hwc]; exact cells_new _ _ (fdL fm (.slice wa wn wx)) _ rfl
          have hzd : wc'.heap.size = wr.heap.size + 1 := by rw [hwc]; simp
          have HFD2 := hide (owns_kept HFD.out fun q hq => hb.block q (owns_lt HFD.out hq).1)
          have HFDL : Hid (∀ b, (Value.slice xa R.length xc).ownBlock = some b → b < wr.heap.size) := fun b hb => (owns_lt HFD.out hb).1
          replace HBX := hide (HBX.out.on hb)
          replace HZR := hide (HZR.out.trans (hb.mono HZR.out.size))
          replace HBI := hide (HBI.out.trans (hb.mono (by omega)))
          have hzi := HZR.out.size
          clear hb hwc HFD
          refine hK.out _ _ (fun _ => ⟨HBX.out.cell 1, KP.out _ HZR.out⟩) (fun hHeld => ?_)
          replace hHeld := hHeld (by decide)
          clear hK KK
          try simp only [Act.put, List.getElem_toArray, List.getElem_cons_succ, List.getElem_cons_zero, List.setIfInBounds_toArray, List.set_cons_zero, List.set_cons_succ]
          refine wpAnyB_one (i := 11) (by kernel_rfl) rfl (fun KK hK => ?_)
          refine step_append_lies _ (by rfl) (.tmp 32) (.tmp 41) 34 (by rfl) lo 56 i1 (.agg #[.string ⟨#[]⟩, .int .i64 0, .int .i64 0, .int .i64 0, .slice none 0 0, .string ⟨#[]⟩, .int .i64 0, .bool false, .bool false, .string ⟨#[]⟩, .string ⟨#[]⟩]) 11 128 Tryz.underlying34 HI1.out.1 HI1.out.2.1 HI1.out.2.2.1 HI1.out.2.2.2 (by rfl) (by decide) (.slice xa R.length xc) R.length (flatC fdC R) (by rfl) HFD2.out ⟨wr.heap.size, 0, none⟩ 1 1 (fdL fm (.slice wa wn wx)) (by rfl) (by rfl) HNW.out (all_one fm _ _ _) (by decide) (by unfold maxLen; omega) (by omega) (by omega) _ rfl ?_
          intro g cap1 wd' hown hgrow hat hltg
          have hbg : Below (σ + 1) wc' wd' := grown_below HFD2.out hgrow (by omega) (fun q hq => HNF.out q hq)
          have HFN : Hid (wd'.ownsRow lo 56 11 (.slice (some ⟨g, 0, none⟩) (R.length + 1) cap1) (R.length + 1) (flatC fdC R ++ fdL fm (.slice wa wn wx))) := hown
          have HGN : Hid (σ < g) := by
            rcases hat with hat | hat
            · exact HNF.out g hat
            · unfold Hid; omega
          replace HBX := hide (HBX.out.below hbg (by omega))
          replace HBI := hide (HBI.out.trans (hbg.mono (by omega)))
          replace HZR := hide (HZR.out.trans (hbg.mono (by omega)))
          clear hown hgrow hat hbg HFD2 HNW
          refine hK.out _ _ (fun _ => ⟨HBX.out.cell 1, KP.out _ HZR.out⟩) (fun hHeld => ?_)
          replace hHeld := hHeld (by decide)
          clear hK KK
          try simp only [Act.put, List.getElem_toArray, List.getElem_cons_succ, List.getElem_cons_zero, List.setIfInBounds_toArray, List.set_cons_zero, List.set_cons_succ]
          refine wpAnyB_take [13] (i := 12) (v := .pointer (some ⟨σ, 1, none⟩)) rfl (by kernel_rfl) (by kernel_rfl) (by kernel_rfl) (by kernel_rfl) (fun _ _ _ h => h) (Or.inl ⟨by rfl, fun W hW => by obtain ⟨hq1, hq2, hq3⟩ := hW; go_simp⟩) hHeld ?_
          try simp only [Act.put, List.getElem_toArray, List.getElem_cons_succ, List.getElem_cons_zero, List.setIfInBounds_toArray, List.set_cons_zero, List.set_cons_succ]
          refine wpAnyB_one (i := 13) (by kernel_rfl) rfl (fun KK hK => ?_)
          have c1 := HBX.out.cell 1
          have cf := HBX.out.free
          go_simp
          refine hK.out _ _ (fun h => absurd (by decide) h) (fun _ => ?_)
          clear hK KK c1 cf hHeld
          try simp only [Act.put, List.getElem_toArray, List.getElem_cons_succ, List.getElem_cons_zero, List.setIfInBounds_toArray, List.set_cons_zero, List.set_cons_succ]
          refine wpAnyB_done (by kernel_rfl) ?_ _
          obtain ⟨we', hwe⟩ : ∃ vv, vv = wd'.setCell ⟨σ, 1, none⟩ (.slice (some ⟨g, 0, none⟩) (R.length + 1) cap1) := ⟨_, rfl⟩
          rw [← hwe]
          have BXN : Hid (Box we' σ #[.string kd, .slice (some ⟨g, 0, none⟩) (R.length + 1) cap1]) := by unfold Hid; rw [hwe]; exact put_cell HBX.out 1 (by simp) _
          have FDN : Hid (we'.ownsRow lo 56 11 (.slice (some ⟨g, 0, none⟩) (R.length + 1) cap1) (R ++ [(Value.slice wa wn wx, fm)]).length (flatC fdC (R ++ [(Value.slice wa wn wx, fm)]))) := by
            unfold Hid
            rw [hwe, List.length_append, flatC_app]
            have h1 := owns_kept (W' := wd'.setCell ⟨σ, 1, none⟩ (.slice (some ⟨g, 0, none⟩) (R.length + 1) cap1)) HFN.out fun q hq => Below.heap_setCell _ _ _ q (by have e := own_at hq; have h := HGN.out; show q ≠ σ; omega)
            simpa [flatC, fdC] using h1
          have BIN : Hid (Below σ wR we') := by unfold Hid; rw [hwe]; exact HBI.out.setCell (Nat.le_refl _) _
          clear hwe HBX HFN HBI HZR
          rw [← HMM.out] at FDN
          go_wp2
          go_roundw
          case rel => exact ⟨m, _, by go_num, by omega, BXN.out, FDN.out, fun b hb => by have e := own_at hb; have h := HGN.out; omega, BIN.out⟩
          case measure => simp [intOf]
    · go_wp2
      have hkL : k = L.length := by omega
      subst hkL
      refine bodyPost_ret (v := .slice oa L'.length oc) (by simp [results, Tryz.results14, go_sem]) rfl ⟨_, L', rfl, HO.out, by have h := HMP.out; rw [List.take_length] at h; exact h, HB.out⟩
end Go.Proofs.YtjkkbkdpoebfaaaGreat
