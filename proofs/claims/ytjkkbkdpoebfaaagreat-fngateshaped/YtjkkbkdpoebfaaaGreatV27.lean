import Derived.Test.YtjkkbkdpoebfaaaGreatV25
import Derived.Deep.AppendLies
namespace Go.Proofs.YtjkkbkdpoebfaaaGreat
open Go.RowKit Go.Deep

theorem fieldInfo : (Tryz.prog.info? 56).map (fun i => (i.zero, i.size, i.bytes)) = some (some (.agg #[.string ⟨#[]⟩, .int .i64 0, .int .i64 0, .int .i64 0, .slice none 0 0, .string ⟨#[]⟩, .int .i64 0, .bool false, .bool false, .string ⟨#[]⟩, .string ⟨#[]⟩]), 11, 128) := by kernel_rfl
theorem shapeInfo : (Tryz.prog.info? 45).map (fun i => (i.zero, i.size, i.bytes)) = some (some (.agg #[.string ⟨#[]⟩, .slice none 0 0]), 2, 40) := by kernel_rfl
theorem cells_new (X : World) (g : Nat) (C : List Value) (t : TypeId) (hg : X.heap.size = g) : ∀ j x, C[j]? = some x → (X.alloc (.cells C.toArray t)).cell? ((⟨g, 0, none⟩ : Addr).add j) = some x := fun j x hx => by
  have hadd : (⟨g, 0, none⟩ : Addr).add j = ⟨g, j, none⟩ := by unfold Addr.add; split <;> simp_all
  rw [hadd, new_cell _ _ _ _ _ hg]
  simpa using hx
theorem StrsK.mono {K K' : Nat → Prop} {W : World} {v : Value} {L : List ByteArray} (h : StrsK K W v L) (hk : ∀ k, K k → K' k) : StrsK K' W v L := by
  rcases h with h | ⟨b, off, cap, h1, h2, h3, h4, h5, h6⟩
  · exact Or.inl h
  · exact Or.inr ⟨b, off, cap, h1, h2, h3, hk b h4, h5, h6⟩
theorem all_one (f : Fd) (a : Option Addr) (n c : Nat) : ∀ u ∈ fdL f (.slice a n c), u.oneCell' = true := fun u hu => by
  have := fdL_one f a n c
  rw [← Array.all_toList, List.all_eq_true] at this
  exact this u hu
theorem StrsIn.form0 {lo : Nat} {w : World} {v : Value} {L : List ByteArray} (h : StrsIn lo w v L) : ∃ a n cap, v = .slice a n cap := h.form

set_option maxRecDepth 20000 in
set_option maxHeartbeats 8000000 in
theorem l1DrawShapes_any (ρ p : Nat) (bs : List UInt8) (w : World) (h : Rd w ρ p bs) (hp : p ≤ 800000000) :
    Calls Tryz.prog 48 #[.pointer (some ⟨ρ, 0, none⟩)] w fun e w' => ∃ (v : Value) (L : List SX), e = .returned v ∧ ShsG w.heap.size v L w' ∧ 1 ≤ L.length ∧ L.length ≤ 3 ∧ (∃ q, p ≤ q ∧ q ≤ p + 1000 ∧ Rd w' ρ q bs) ∧ Tch ρ w w' := by
  obtain ⟨i1, f1, f2, f3, f4⟩ := info_parts fieldInfo
  obtain ⟨i2, s1, s2, s3, s4⟩ := info_parts shapeInfo
  have HI1 := hide (And.intro f1 (And.intro f2 (And.intro f3 f4)))
  have HI2 := hide (And.intro s1 (And.intro s2 (And.intro s3 s4)))
  clear f1 f2 f3 f4 s1 s2 s3 s4
  have HR := hide h
  have hlt := h.lt
  clear h
  go_enter Tryz.func48, Tryz.ntmps48
  go_wp2_with fail
  have hb0 := one_al w (.cells #[.string ⟨#[107]⟩, .string ⟨#[110]⟩, .string ⟨#[122]⟩] 9)
  have BX : Hid (Box (w.alloc (.cells #[.string ⟨#[107]⟩, .string ⟨#[110]⟩, .string ⟨#[122]⟩] 9)) w.heap.size #[.string ⟨#[107]⟩, .string ⟨#[110]⟩, .string ⟨#[122]⟩]) := Box.new _ _ _ _ rfl
  generalize World.alloc w _ = w0 at *
  replace HR := hide (HR.out.below hb0)
  have HT0 : Hid (Tch ρ w w0) := Tch.below hb0
  clear hb0
  refine (pick_any ρ p bs 3 w0 HR.out (by omega) (by decide) (by decide)).mono ?_
  rintro e w1 ⟨x, rfl, hx0, hx1, hr, ht⟩
  obtain ⟨n, rfl⟩ := Int.eq_ofNat_of_zero_le hx0
  replace HR := hide hr
  replace BX := hide (ht.box BX.out (by omega))
  replace HT0 := hide (HT0.out.trans ht)
  have hs1 : w.heap.size < w1.heap.size := BX.out.lt
  clear hr ht
  obtain ⟨KL, hKn, hKI, hKs⟩ : ∃ KL : List ByteArray, KL.length = 1 + n ∧ StrsIn w.heap.size w1 (.slice (some ⟨w.heap.size, 0, none⟩) KL.length 3) KL ∧ ∀ s ∈ KL, s.size ≤ 1000 := by
    have hb : ∀ i, w1.cell? ⟨w.heap.size, i, none⟩ = _ := BX.out.cell
    have h3 : n = 0 ∨ n = 1 ∨ n = 2 := by omega
    rcases h3 with rfl | rfl | rfl
    · refine ⟨[⟨#[107]⟩], rfl, Or.inr ⟨_, 0, 3, rfl, by simp, by unfold maxLen; simp, hs1, fun i hi => ?_, fun s hs => ?_, Nat.le_refl _⟩, fun s hs => ?_⟩
      · rw [Nat.zero_add, hb]
        have hi' : i < 1 := hi
        match i, hi' with
        | 0, _ => rfl
      · simp at hs
        subst hs
        unfold maxLen
        decide
      · simp at hs
        subst hs
        decide
    · refine ⟨[⟨#[107]⟩, ⟨#[110]⟩], rfl, Or.inr ⟨_, 0, 3, rfl, by simp, by unfold maxLen; simp, hs1, fun i hi => ?_, fun s hs => ?_, Nat.le_refl _⟩, fun s hs => ?_⟩
      · rw [Nat.zero_add, hb]
        have hi' : i < 2 := hi
        match i, hi' with
        | 0, _ => rfl
        | 1, _ => rfl
      · simp at hs
        unfold maxLen
        rcases hs with rfl | rfl <;> decide
      · simp at hs
        rcases hs with rfl | rfl <;> decide
    · refine ⟨[⟨#[107]⟩, ⟨#[110]⟩, ⟨#[122]⟩], rfl, Or.inr ⟨_, 0, 3, rfl, by simp, by unfold maxLen; simp, hs1, fun i hi => ?_, fun s hs => ?_, Nat.le_refl _⟩, fun s hs => ?_⟩
      · rw [Nat.zero_add, hb]
        have hi' : i < 3 := hi
        match i, hi' with
        | 0, _ => rfl
        | 1, _ => rfl
        | 2, _ => rfl
      · simp at hs
        unfold maxLen
        rcases hs with rfl | rfl | rfl <;> decide
      · simp at hs
        rcases hs with rfl | rfl | rfl <;> decide
  have HK := hide hKI
  have HKS := hide hKs
  clear hKI hKs BX
  have hn3 : (n : Int) < 3 := hx1
  have hw1 : wrap64 (1 + (n : Int)) = 1 + (n : Int) := by unfold wrap64; omega
  go_wp2
  rw [show (1 + n) = KL.length from hKn.symm]
  have hK1 : 1 ≤ KL.length := by omega
  have hK3 : KL.length ≤ 3 := by omega
  clear hKn hn3 hw1 hx0 hx1
  have HS1 := hide hs1
  go_loopw [4, 5] (fun v i wr => ∃ (k q : Nat) (L : List SX), i = .int .i64 k ∧ k ≤ KL.length ∧ L.length = k ∧ ShsG w1.heap.size v L wr ∧ Rd wr ρ q bs ∧ p + 1 ≤ q ∧ q ≤ p + 1 + 200 * k ∧ Tch ρ w1 wr) (fun _ i _ => KL.length - (intOf i).toNat)
  case atStart => exact ⟨0, p + 1, [], rfl, by omega, rfl, ZRw.made w1 _ rfl (Nat.le_refl _), HR.out.below (one_al _ _), Nat.le_refl _, by omega, Tch.below (one_al _ _)⟩
  case round =>
    obtain ⟨k, q, L, rfl, hk, hLk, hSG, hrd, hq1, hq2, htc⟩ := hrel
    have HSG := hide hSG
    have HRD := hide hrd
    have HTC := hide htc
    obtain ⟨va, vc, rfl⟩ := ZRw.form hSG
    have hzr := htc.size
    have HKr := hide (HK.out.tch htc hlt)
    clear hSG hrd htc
    subst hLk
    by_cases hkl : L.length < KL.length
    · rcases HKr.out with ⟨_, _, _, e⟩ | ⟨kb, ko, kc, e, _, _, hkb, hkc, _, _⟩
      · rw [e] at hkl; simp at hkl
      cases e
      have c0 : wr.cell? ⟨w.heap.size, L.length, none⟩ = some (.string KL[L.length]) := by have := hkc L.length hkl; rwa [Nat.zero_add] at this
      have HNK : Hid (KL[L.length].size ≤ 1000) := HKS.out _ (List.getElem_mem hkl)
      clear hkc
      generalize KL[L.length] = kk at *
      go_wp2_with fail
      clear c0
      have hbo := one_al wr (.cells #[.string kk, .slice none 0 0] 45)
      have BS : Hid (Box (wr.alloc (.cells #[.string kk, .slice none 0 0] 45)) wr.heap.size #[.string kk, .slice none 0 0]) := Box.new _ _ _ _ rfl
      generalize hWo : World.alloc wr _ = wo at *
      have HTo : Hid (Tch ρ wr wo) := Tch.below hbo
      replace HRD := hide (HRD.out.below hbo)
      clear hWo hbo
      obtain ⟨σ, hσ⟩ : ∃ σ, wr.heap.size = σ := ⟨_, rfl⟩
      rw [hσ] at BS
      rw [hσ]
      have hρσ : ρ < σ := by omega
      have hσw : w1.heap.size ≤ σ := by omega
      have HOBL : Hid (∀ k, (Value.slice va L.length vc).ownBlock = some k → k < σ) := fun k hk => by have := (owns_lt HSG.out.own hk).1; omega
      generalize wr = wR at *
      refine (pick_any ρ q bs 5 wo HRD.out (by omega) (by decide) (by decide)).mono ?_
      rintro e wa ⟨x7, rfl, hx70, hx71, hr, ht⟩
      obtain ⟨n7, rfl⟩ := Int.eq_ofNat_of_zero_le hx70
      replace HRD := hide hr
      replace BS := hide (ht.box BS.out (by omega))
      replace HTo := hide (HTo.out.trans ht)
      clear hr ht
      go_wp2_with fail
      refine (pick_any ρ _ bs 10 wa HRD.out (by omega) (by decide) (by decide)).mono ?_
      rintro e wb ⟨x8, rfl, -, -, hr, ht⟩
      replace HRD := hide hr
      replace BS := hide (ht.box BS.out (by omega))
      replace HTo := hide (HTo.out.trans ht)
      clear hr ht
      by_cases h0 : x8 = 0
      · subst h0
        go_wp2
        go_loopw [8] (fun i wi => ∃ (j q' : Nat) (fv : Value) (fs : List (Value × Fd)), i = .int .i64 j ∧ j ≤ 6 ∧ fs.length = j ∧ Box wi σ #[.string kk, fv] ∧ FdsG (σ + 1) fv fs wi ∧ Rd wi ρ q' bs ∧ q + 2 ≤ q' ∧ q' ≤ q + 2 + 25 * j ∧ Tch ρ wR wi) (fun i _ => 6 - (intOf i).toNat)
        case atStart => exact ⟨0, q + 2, .slice none 0 0, [], rfl, by omega, rfl, BS.out, ZRw.nil _ _, HRD.out, Nat.le_refl _, by omega, HTo.out⟩
        case round =>
          obtain ⟨j, q', fv, fs, rfl, hj, hfj, hbx, hfd, hrd, hq1', hq2', htc⟩ := hrel
          subst hfj
          have HBX := hide hbx
          have HFD := hide hfd
          have HRi := hide hrd
          have HTi := hide htc
          obtain ⟨fa, fc, rfl⟩ := ZRw.form hfd
          have hσi : σ < wr.heap.size := hbx.lt
          clear hbx hfd hrd htc
          by_cases hjl : fs.length < 6
          · have hjl' : (fs.length : Int) < 6 := by omega
            go_upto_region 13 with fail
            have HC1 : Hid (wr.cell? ⟨σ, 1, none⟩ = some (.slice fa fs.length fc)) := HBX.out.cell 1
            refine wp_region_B (S := fun W => W.cell? ⟨σ, 1, none⟩ = some (.slice fa fs.length fc)) [11] (by kernel_rfl) HC1.out (fun hHeld => ?_)
            refine wpAnyB_take [11] (i := 0) (v := .pointer (some ⟨σ, 1, none⟩)) rfl (by kernel_rfl) (by kernel_rfl) (by kernel_rfl) (by kernel_rfl) (fun _ _ _ h => h) (Or.inl ⟨by rfl, fun W hW => by go_simp⟩) hHeld ?_
            try simp only [Act.put, List.getElem_toArray, List.getElem_cons_zero, List.setIfInBounds_toArray, List.set_cons_zero, List.set_cons_succ]
            refine wpAnyB_take [11] (i := 1) (v := .slice fa fs.length fc) rfl (by kernel_rfl) (by kernel_rfl) (by kernel_rfl) (by kernel_rfl) (fun _ _ _ h => h) (Or.inl ⟨by rfl, fun W hW => by go_simp⟩) hHeld ?_
            try simp only [Act.put, List.getElem_toArray, List.getElem_cons_succ, List.getElem_cons_zero, List.setIfInBounds_toArray, List.set_cons_zero, List.set_cons_succ]
            refine wpAnyB_take [11] (i := 2) (v := .pointer (some ⟨ρ, 0, none⟩)) rfl (by kernel_rfl) (by kernel_rfl) (by kernel_rfl) (by kernel_rfl) (fun _ _ _ h => h) (Or.inl ⟨by rfl, fun W hW => by go_simp⟩) hHeld ?_
            try simp only [Act.put, List.getElem_toArray, List.getElem_cons_succ, List.getElem_cons_zero, List.setIfInBounds_toArray, List.set_cons_zero, List.set_cons_succ]
            refine wpAnyB_take [11] (i := 3) (v := .int .i64 (fs.length : Int)) rfl (by kernel_rfl) (by kernel_rfl) (by kernel_rfl) (by kernel_rfl) (fun _ _ _ h => h) (Or.inl ⟨by rfl, fun W hW => by go_simp⟩) hHeld ?_
            try simp only [Act.put, List.getElem_toArray, List.getElem_cons_succ, List.getElem_cons_zero, List.setIfInBounds_toArray, List.set_cons_zero, List.set_cons_succ]
            refine wpAnyB_take [11] (i := 6) (v := .slice (some ⟨w.heap.size, 0, none⟩) KL.length 3) rfl (by kernel_rfl) (by kernel_rfl) (by kernel_rfl) (by kernel_rfl) (fun _ _ _ h => h) (Or.inl ⟨by rfl, fun W hW => by go_simp⟩) hHeld ?_
            try simp only [Act.put, List.getElem_toArray, List.getElem_cons_succ, List.getElem_cons_zero, List.setIfInBounds_toArray, List.set_cons_zero, List.set_cons_succ]
            refine wpAnyB_one (i := 4) (by kernel_rfl) rfl (fun KK hK => ?_)
            go_simp
            have hbd : Below wr.heap.size wr wr.drew := (Below.refl _ _).drew
            refine (l4DecN_any 9 fs.length (by omega) (by omega) (by omega) _).mono ?_
            rintro e wa' ⟨sd, rfl, hsd, hb⟩
            replace hb : Below wr.heap.size wr wa' := bt hbd hb
            replace HBX := hide (HBX.out.on hb)
            replace HFD := hide (ZRw.below fd_keeps HFD.out hb)
            replace HRi := hide (HRi.out.below hb)
            replace HTi := hide (HTi.out.trans (Tch.below hb))
            clear hbd hb HC1
            have had : ∀ W, (Op.stringOp .add ⟨#[102]⟩ sd).run Tryz.prog W = .ok (.string (⟨#[102]⟩ ++ sd)) W := fun W => run_string_add_sum (P := Tryz.prog) (w := W) ⟨#[102]⟩ sd (by have e1 : (⟨#[102]⟩ : ByteArray).size = 1 := rfl; omega)
            have HNM : Hid ((⟨#[102]⟩ ++ sd : ByteArray).size ≤ 1000) := by unfold Hid; rw [ByteArray.size_append]; have e1 : (⟨#[102]⟩ : ByteArray).size = 1 := rfl; omega
            generalize (⟨#[102]⟩ ++ sd : ByteArray) = nmf at *
            try go_wp2_with fail
            refine hK.out _ _ (fun _ => HBX.out.cell 1) (fun hHeld => ?_)
            replace hHeld := hHeld (by decide)
            clear hK KK
            try simp only [Act.put, List.getElem_toArray, List.getElem_cons_succ, List.getElem_cons_zero, List.setIfInBounds_toArray, List.set_cons_zero, List.set_cons_succ]
            refine wpAnyB_take [11] (i := 5) (v := .string nmf) rfl (by kernel_rfl) (by kernel_rfl) (by kernel_rfl) (by kernel_rfl) (fun _ _ _ h => h) (Or.inl ⟨by rfl, fun W hW => by go_simp⟩) hHeld ?_
            try simp only [Act.put, List.getElem_toArray, List.getElem_cons_succ, List.getElem_cons_zero, List.setIfInBounds_toArray, List.set_cons_zero, List.set_cons_succ]
            refine wpAnyB_one (i := 7) (by kernel_rfl) rfl (fun KK hK => ?_)
            go_simp
            clear had
            have HOB : Hid (∀ k, (Value.slice fa fs.length fc).ownBlock = some k → k < wa'.heap.size) := fun k hk => (owns_lt HFD.out.own hk).1
            refine (l1DrawField_any w.heap.size ρ q' bs nmf _ KL _ HRi.out (by omega) HNM.out (HK.out.tch (HTC.out.trans HTi.out) hlt) hlt hK1 hK3 HKS.out).mono ?_
            rintro e wb' ⟨f, wvf, rfl, hff, hfw, ⟨q2, hq21, hq22, hr⟩, ht⟩
            have hza := HRi.out.lt
            have hzb : σ < wa'.heap.size := HBX.out.lt
            have hzc := ht.size
            have HFF := hide hff
            have HFW := hide (hfw.toK)
            obtain ⟨wfa, wfn, wfc, rfl⟩ := hfw.form
            replace HBX := hide (ht.box HBX.out (by omega))
            replace HFD := hide (ZRw.tch fd_keeps HFD.out ht (by omega))
            replace HRi := hide hr
            replace HTi := hide (HTi.out.trans ht)
            clear hr ht hff hfw
            unfold fdL
            try go_wp2_with fail
            refine hK.out _ _ (fun _ => HBX.out.cell 1) (fun hHeld => ?_)
            replace hHeld := hHeld (by decide)
            clear hK KK
            try simp only [Act.put, List.getElem_toArray, List.getElem_cons_succ, List.getElem_cons_zero, List.setIfInBounds_toArray, List.set_cons_zero, List.set_cons_succ]
            refine wpAnyB_one (i := 8) (by kernel_rfl) rfl (fun KK hK => ?_)
            go_simp
            obtain ⟨wc', hwc⟩ : ∃ vv, vv = wb'.alloc (.cells #[.string f.nm, .int .i64 f.kd, .int .i64 f.le, .int .i64 f.mo, .slice wfa wfn wfc, .string f.to, .int .i64 f.ro, .bool f.mu, .bool f.fx, .string f.df, .string f.we] 56) := ⟨_, rfl⟩
            rw [← hwc]
            have hb : Below wb'.heap.size wb' wc' := by rw [hwc]; exact one_al _ _
            have HNW : Hid (∀ j x, (fdL f (.slice wfa wfn wfc))[j]? = some x → wc'.cell? ((⟨wb'.heap.size, 0, none⟩ : Addr).add j) = some x) := by unfold Hid; rw [hwc]; exact cells_new _ _ (fdL f (.slice wfa wfn wfc)) _ rfl
            have hzd := hb.size
            have HFP : Hid (FdP (fun k => wa'.heap.size ≤ k ∧ k < wb'.heap.size) wc' (.slice wfa wfn wfc, f)) := ⟨HFF.out, HFW.out.keep fun k hk => hb.block k hk.2⟩
            replace HBX := hide (HBX.out.on hb)
            replace HFD := hide (ZRw.below fd_keeps HFD.out hb)
            replace HRi := hide (HRi.out.below hb)
            replace HTi := hide (HTi.out.trans (Tch.below hb))
            clear hb hwc HFW HFF
            refine hK.out _ _ (fun _ => HBX.out.cell 1) (fun hHeld => ?_)
            replace hHeld := hHeld (by decide)
            clear hK KK
            try simp only [Act.put, List.getElem_toArray, List.getElem_cons_succ, List.getElem_cons_zero, List.setIfInBounds_toArray, List.set_cons_zero, List.set_cons_succ]
            refine wpAnyB_one (i := 9) (by kernel_rfl) rfl (fun KK hK => ?_)
            refine step_append_lies _ (by rfl) (.tmp 37) (.tmp 44) 34 (by rfl) (σ + 1) 56 i1 (.agg #[.string ⟨#[]⟩, .int .i64 0, .int .i64 0, .int .i64 0, .slice none 0 0, .string ⟨#[]⟩, .int .i64 0, .bool false, .bool false, .string ⟨#[]⟩, .string ⟨#[]⟩]) 11 128 Tryz.underlying34 HI1.out.1 HI1.out.2.1 HI1.out.2.2.1 HI1.out.2.2.2 (by rfl) (by decide) (.slice fa fs.length fc) fs.length (flatC fdC fs) (by rfl) HFD.out.own ⟨wb'.heap.size, 0, none⟩ 1 1 (fdL f (.slice wfa wfn wfc)) (by rfl) (by rfl) HNW.out (all_one f _ _ _) (by decide) (by unfold maxLen; omega) (by omega) (by omega) _ rfl ?_
            intro g cap1 wd' hown hgrow hat hltg
            have hbg : Below (σ + 1) wc' wd' := owns_grown HFD.out.own hgrow (by omega)
            have HFN : Hid (FdsG (σ + 1) (.slice (some ⟨g, 0, none⟩) (fs.length + 1) cap1) (fs ++ [(.slice wfa wfn wfc, f)]) wd') := ZRw.app fd_keeps HFD.out _ _ HFP.out (fun k hk => ⟨by omega, by omega, fun e => by have := HOB.out k e; omega⟩) hown hgrow hat
            replace HBX := hide (HBX.out.below hbg (by omega))
            replace HRi := hide (HRi.out.belowB hbg (by omega))
            replace HTi := hide (HTi.out.belowB hbg (by omega))
            have hze := hbg.size
            clear hown hgrow hat hbg HFD HFP HNW HOB
            refine hK.out _ _ (fun _ => HBX.out.cell 1) (fun hHeld => ?_)
            replace hHeld := hHeld (by decide)
            clear hK KK
            try simp only [Act.put, List.getElem_toArray, List.getElem_cons_succ, List.getElem_cons_zero, List.setIfInBounds_toArray, List.set_cons_zero, List.set_cons_succ]
            refine wpAnyB_take [11] (i := 10) (v := .pointer (some ⟨σ, 1, none⟩)) rfl (by kernel_rfl) (by kernel_rfl) (by kernel_rfl) (by kernel_rfl) (fun _ _ _ h => h) (Or.inl ⟨by rfl, fun W hW => by go_simp⟩) hHeld ?_
            try simp only [Act.put, List.getElem_toArray, List.getElem_cons_succ, List.getElem_cons_zero, List.setIfInBounds_toArray, List.set_cons_zero, List.set_cons_succ]
            refine wpAnyB_one (i := 11) (by kernel_rfl) rfl (fun KK hK => ?_)
            have c1 := HBX.out.cell 1
            have cf := HBX.out.free
            go_simp
            refine hK.out _ _ (fun h => absurd (by decide) h) (fun _ => ?_)
            clear hK KK c1 cf hHeld
            try simp only [Act.put, List.getElem_toArray, List.getElem_cons_succ, List.getElem_cons_zero, List.setIfInBounds_toArray, List.set_cons_zero, List.set_cons_succ]
            refine wpAnyB_done (by kernel_rfl) ?_ _
            obtain ⟨we', hwe⟩ : ∃ vv, vv = wd'.setCell ⟨σ, 1, none⟩ (.slice (some ⟨g, 0, none⟩) (fs.length + 1) cap1) := ⟨_, rfl⟩
            rw [← hwe]
            have BXN : Hid (Box we' σ #[.string kk, .slice (some ⟨g, 0, none⟩) (fs.length + 1) cap1]) := by unfold Hid; rw [hwe]; exact put_cell HBX.out 1 (by simp) _
            have FDN : Hid (FdsG (σ + 1) (.slice (some ⟨g, 0, none⟩) (fs.length + 1) cap1) (fs ++ [(.slice wfa wfn wfc, f)]) we') := by unfold Hid; rw [hwe]; exact ZRw.set fd_keeps HFN.out (by show σ < σ + 1; omega) _
            have RDN : Hid (Rd we' ρ q2 bs) := by unfold Hid; rw [hwe]; exact HRi.out.other hρσ _
            have TCN : Hid (Tch ρ wR we') := by unfold Hid; rw [hwe]; exact HTi.out.other (by omega) _
            clear hwe HBX HFN HRi HTi
            go_wp2
            go_roundw
            case rel => exact ⟨fs.length + 1, q2, _, _, by go_num, by omega, by simp, BXN.out, FDN.out, RDN.out, by omega, by omega, TCN.out⟩
            case measure => simp [intOf]; omega
          · have hjl' : ¬ (fs.length : Int) < 6 := by omega
            have c : ∀ i, wr.cell? ⟨σ, i, none⟩ = _ := HBX.out.cell
            have HSI := hide (ZRw.tch sh_keeps HSG.out HTi.out (by omega))
            have HSA := hide (ZRw.below sh_keeps HSI.out (one_al wr (.cells #[.string kk, .slice fa fs.length fc] 45)))
            have HFA := hide (ZRw.below fd_keeps HFD.out (one_al wr (.cells #[.string kk, .slice fa fs.length fc] 45)))
            have HZA : Hid ((wr.alloc (.cells #[.string kk, .slice fa fs.length fc] 45)).heap.size = wr.heap.size + 1) := by unfold Hid; simp
            have hzi := HTi.out.size
            go_wp2_with (at_builtin; refine wpList_append_lies _ rfl (.tmp 47) (.tmp 49) 23 rfl w1.heap.size 45 i2 (.agg #[.string ⟨#[]⟩, .slice none 0 0]) 2 40 Tryz.underlying23 HI2.out.1 HI2.out.2.1 HI2.out.2.2.1 HI2.out.2.2.2 rfl (by decide) _ _ _ rfl HSA.out.own ⟨wr.heap.size, 0, none⟩ 1 1 [.string kk, .slice fa fs.length fc] rfl rfl (cells_new _ _ [.string kk, .slice fa fs.length fc] _ rfl) (fun u hu => by simp at hu; rcases hu with rfl | rfl <;> rfl) (by decide) (by unfold maxLen; omega) (by omega) (by simp; omega) _ rfl ?_; intro g cap1 w9 hown hgrow hat hltg)
            have hbg : Below w1.heap.size _ w9 := owns_grown HSA.out.own hgrow (by have := HZA.out; omega)
            have hSP : ShP (fun k => σ < k ∧ k < wr.heap.size) (wr.alloc (.cells #[.string kk, .slice fa fs.length fc] 45)) ⟨.slice fa fs.length fc, kk, fs⟩ :=
              ⟨HNK.out, by show fs.length ≤ 10; omega, owns_lo HFA.out.own (Nat.zero_le _), fun k hk => ⟨(owns_lt HFD.out.own hk).2, (owns_lt HFD.out.own hk).1⟩, fun y hy => by
                obtain ⟨K', h1, h2⟩ := HFD.out.inn y hy
                refine fd_keeps _ wr _ y ⟨h1.1, h1.2.mono fun k hk => ⟨(h2 k hk).1, (h2 k hk).2.1⟩⟩ fun k hk => (one_al wr _).block k hk.2⟩
            have HSN : Hid (ShsG w1.heap.size (.slice (some ⟨g, 0, none⟩) (L.length + 1) cap1) (L ++ [⟨.slice fa fs.length fc, kk, fs⟩]) w9) := ZRw.app sh_keeps HSA.out _ _ hSP (fun k hk => ⟨by omega, by have := HZA.out; omega, fun e => by have := HOBL.out k e; omega⟩) hown hgrow hat
            have RDN : Hid (Rd w9 ρ q' bs) := (HRi.out.below (one_al wr _)).belowB hbg (by omega)
            have TCN : Hid (Tch ρ w1 w9) := ((HTC.out.trans HTi.out).trans (Tch.below (one_al wr _))).belowB hbg (Nat.le_refl _)
            clear hSP hbg hown hgrow hat
            go_roundw
            case rel => exact ⟨L.length + 1, q', _, by go_num, by omega, by simp, HSN.out, RDN.out, by omega, by omega, TCN.out⟩
            case measure => simp [intOf]; omega
      · have h0' : (x8 == 0) = false := by simpa using h0
        go_wp2
        go_loopw [8] (fun i wi => ∃ (j q' : Nat) (fv : Value) (fs : List (Value × Fd)), i = .int .i64 j ∧ j ≤ n7 ∧ fs.length = j ∧ Box wi σ #[.string kk, fv] ∧ FdsG (σ + 1) fv fs wi ∧ Rd wi ρ q' bs ∧ q + 2 ≤ q' ∧ q' ≤ q + 2 + 25 * j ∧ Tch ρ wR wi) (fun i _ => n7 - (intOf i).toNat)
        case atStart => exact ⟨0, q + 2, .slice none 0 0, [], rfl, by omega, rfl, BS.out, ZRw.nil _ _, HRD.out, Nat.le_refl _, by omega, HTo.out⟩
        case round =>
          obtain ⟨j, q', fv, fs, rfl, hj, hfj, hbx, hfd, hrd, hq1', hq2', htc⟩ := hrel
          subst hfj
          have HBX := hide hbx
          have HFD := hide hfd
          have HRi := hide hrd
          have HTi := hide htc
          obtain ⟨fa, fc, rfl⟩ := ZRw.form hfd
          have hσi : σ < wr.heap.size := hbx.lt
          clear hbx hfd hrd htc
          by_cases hjl : fs.length < n7
          · have hjl' : (fs.length : Int) < (n7 : Int) := by omega
            go_upto_region 13 with fail
            have HC1 : Hid (wr.cell? ⟨σ, 1, none⟩ = some (.slice fa fs.length fc)) := HBX.out.cell 1
            refine wp_region_B (S := fun W => W.cell? ⟨σ, 1, none⟩ = some (.slice fa fs.length fc)) [11] (by kernel_rfl) HC1.out (fun hHeld => ?_)
            refine wpAnyB_take [11] (i := 0) (v := .pointer (some ⟨σ, 1, none⟩)) rfl (by kernel_rfl) (by kernel_rfl) (by kernel_rfl) (by kernel_rfl) (fun _ _ _ h => h) (Or.inl ⟨by rfl, fun W hW => by go_simp⟩) hHeld ?_
            try simp only [Act.put, List.getElem_toArray, List.getElem_cons_zero, List.setIfInBounds_toArray, List.set_cons_zero, List.set_cons_succ]
            refine wpAnyB_take [11] (i := 1) (v := .slice fa fs.length fc) rfl (by kernel_rfl) (by kernel_rfl) (by kernel_rfl) (by kernel_rfl) (fun _ _ _ h => h) (Or.inl ⟨by rfl, fun W hW => by go_simp⟩) hHeld ?_
            try simp only [Act.put, List.getElem_toArray, List.getElem_cons_succ, List.getElem_cons_zero, List.setIfInBounds_toArray, List.set_cons_zero, List.set_cons_succ]
            refine wpAnyB_take [11] (i := 2) (v := .pointer (some ⟨ρ, 0, none⟩)) rfl (by kernel_rfl) (by kernel_rfl) (by kernel_rfl) (by kernel_rfl) (fun _ _ _ h => h) (Or.inl ⟨by rfl, fun W hW => by go_simp⟩) hHeld ?_
            try simp only [Act.put, List.getElem_toArray, List.getElem_cons_succ, List.getElem_cons_zero, List.setIfInBounds_toArray, List.set_cons_zero, List.set_cons_succ]
            refine wpAnyB_take [11] (i := 3) (v := .int .i64 (fs.length : Int)) rfl (by kernel_rfl) (by kernel_rfl) (by kernel_rfl) (by kernel_rfl) (fun _ _ _ h => h) (Or.inl ⟨by rfl, fun W hW => by go_simp⟩) hHeld ?_
            try simp only [Act.put, List.getElem_toArray, List.getElem_cons_succ, List.getElem_cons_zero, List.setIfInBounds_toArray, List.set_cons_zero, List.set_cons_succ]
            refine wpAnyB_take [11] (i := 6) (v := .slice (some ⟨w.heap.size, 0, none⟩) KL.length 3) rfl (by kernel_rfl) (by kernel_rfl) (by kernel_rfl) (by kernel_rfl) (fun _ _ _ h => h) (Or.inl ⟨by rfl, fun W hW => by go_simp⟩) hHeld ?_
            try simp only [Act.put, List.getElem_toArray, List.getElem_cons_succ, List.getElem_cons_zero, List.setIfInBounds_toArray, List.set_cons_zero, List.set_cons_succ]
            refine wpAnyB_one (i := 4) (by kernel_rfl) rfl (fun KK hK => ?_)
            go_simp
            have hbd : Below wr.heap.size wr wr.drew := (Below.refl _ _).drew
            refine (l4DecN_any 9 fs.length (by omega) (by omega) (by omega) _).mono ?_
            rintro e wa' ⟨sd, rfl, hsd, hb⟩
            replace hb : Below wr.heap.size wr wa' := bt hbd hb
            replace HBX := hide (HBX.out.on hb)
            replace HFD := hide (ZRw.below fd_keeps HFD.out hb)
            replace HRi := hide (HRi.out.below hb)
            replace HTi := hide (HTi.out.trans (Tch.below hb))
            clear hbd hb HC1
            have had : ∀ W, (Op.stringOp .add ⟨#[102]⟩ sd).run Tryz.prog W = .ok (.string (⟨#[102]⟩ ++ sd)) W := fun W => run_string_add_sum (P := Tryz.prog) (w := W) ⟨#[102]⟩ sd (by have e1 : (⟨#[102]⟩ : ByteArray).size = 1 := rfl; omega)
            have HNM : Hid ((⟨#[102]⟩ ++ sd : ByteArray).size ≤ 1000) := by unfold Hid; rw [ByteArray.size_append]; have e1 : (⟨#[102]⟩ : ByteArray).size = 1 := rfl; omega
            generalize (⟨#[102]⟩ ++ sd : ByteArray) = nmf at *
            try go_wp2_with fail
            refine hK.out _ _ (fun _ => HBX.out.cell 1) (fun hHeld => ?_)
            replace hHeld := hHeld (by decide)
            clear hK KK
            try simp only [Act.put, List.getElem_toArray, List.getElem_cons_succ, List.getElem_cons_zero, List.setIfInBounds_toArray, List.set_cons_zero, List.set_cons_succ]
            refine wpAnyB_take [11] (i := 5) (v := .string nmf) rfl (by kernel_rfl) (by kernel_rfl) (by kernel_rfl) (by kernel_rfl) (fun _ _ _ h => h) (Or.inl ⟨by rfl, fun W hW => by go_simp⟩) hHeld ?_
            try simp only [Act.put, List.getElem_toArray, List.getElem_cons_succ, List.getElem_cons_zero, List.setIfInBounds_toArray, List.set_cons_zero, List.set_cons_succ]
            refine wpAnyB_one (i := 7) (by kernel_rfl) rfl (fun KK hK => ?_)
            go_simp
            clear had
            have HOB : Hid (∀ k, (Value.slice fa fs.length fc).ownBlock = some k → k < wa'.heap.size) := fun k hk => (owns_lt HFD.out.own hk).1
            refine (l1DrawField_any w.heap.size ρ q' bs nmf _ KL _ HRi.out (by omega) HNM.out (HK.out.tch (HTC.out.trans HTi.out) hlt) hlt hK1 hK3 HKS.out).mono ?_
            rintro e wb' ⟨f, wvf, rfl, hff, hfw, ⟨q2, hq21, hq22, hr⟩, ht⟩
            have hza := HRi.out.lt
            have hzb : σ < wa'.heap.size := HBX.out.lt
            have hzc := ht.size
            have HFF := hide hff
            have HFW := hide (hfw.toK)
            obtain ⟨wfa, wfn, wfc, rfl⟩ := hfw.form
            replace HBX := hide (ht.box HBX.out (by omega))
            replace HFD := hide (ZRw.tch fd_keeps HFD.out ht (by omega))
            replace HRi := hide hr
            replace HTi := hide (HTi.out.trans ht)
            clear hr ht hff hfw
            unfold fdL
            try go_wp2_with fail
            refine hK.out _ _ (fun _ => HBX.out.cell 1) (fun hHeld => ?_)
            replace hHeld := hHeld (by decide)
            clear hK KK
            try simp only [Act.put, List.getElem_toArray, List.getElem_cons_succ, List.getElem_cons_zero, List.setIfInBounds_toArray, List.set_cons_zero, List.set_cons_succ]
            refine wpAnyB_one (i := 8) (by kernel_rfl) rfl (fun KK hK => ?_)
            go_simp
            obtain ⟨wc', hwc⟩ : ∃ vv, vv = wb'.alloc (.cells #[.string f.nm, .int .i64 f.kd, .int .i64 f.le, .int .i64 f.mo, .slice wfa wfn wfc, .string f.to, .int .i64 f.ro, .bool f.mu, .bool f.fx, .string f.df, .string f.we] 56) := ⟨_, rfl⟩
            rw [← hwc]
            have hb : Below wb'.heap.size wb' wc' := by rw [hwc]; exact one_al _ _
            have HNW : Hid (∀ j x, (fdL f (.slice wfa wfn wfc))[j]? = some x → wc'.cell? ((⟨wb'.heap.size, 0, none⟩ : Addr).add j) = some x) := by unfold Hid; rw [hwc]; exact cells_new _ _ (fdL f (.slice wfa wfn wfc)) _ rfl
            have hzd := hb.size
            have HFP : Hid (FdP (fun k => wa'.heap.size ≤ k ∧ k < wb'.heap.size) wc' (.slice wfa wfn wfc, f)) := ⟨HFF.out, HFW.out.keep fun k hk => hb.block k hk.2⟩
            replace HBX := hide (HBX.out.on hb)
            replace HFD := hide (ZRw.below fd_keeps HFD.out hb)
            replace HRi := hide (HRi.out.below hb)
            replace HTi := hide (HTi.out.trans (Tch.below hb))
            clear hb hwc HFW HFF
            refine hK.out _ _ (fun _ => HBX.out.cell 1) (fun hHeld => ?_)
            replace hHeld := hHeld (by decide)
            clear hK KK
            try simp only [Act.put, List.getElem_toArray, List.getElem_cons_succ, List.getElem_cons_zero, List.setIfInBounds_toArray, List.set_cons_zero, List.set_cons_succ]
            refine wpAnyB_one (i := 9) (by kernel_rfl) rfl (fun KK hK => ?_)
            refine step_append_lies _ (by rfl) (.tmp 37) (.tmp 44) 34 (by rfl) (σ + 1) 56 i1 (.agg #[.string ⟨#[]⟩, .int .i64 0, .int .i64 0, .int .i64 0, .slice none 0 0, .string ⟨#[]⟩, .int .i64 0, .bool false, .bool false, .string ⟨#[]⟩, .string ⟨#[]⟩]) 11 128 Tryz.underlying34 HI1.out.1 HI1.out.2.1 HI1.out.2.2.1 HI1.out.2.2.2 (by rfl) (by decide) (.slice fa fs.length fc) fs.length (flatC fdC fs) (by rfl) HFD.out.own ⟨wb'.heap.size, 0, none⟩ 1 1 (fdL f (.slice wfa wfn wfc)) (by rfl) (by rfl) HNW.out (all_one f _ _ _) (by decide) (by unfold maxLen; omega) (by omega) (by omega) _ rfl ?_
            intro g cap1 wd' hown hgrow hat hltg
            have hbg : Below (σ + 1) wc' wd' := owns_grown HFD.out.own hgrow (by omega)
            have HFN : Hid (FdsG (σ + 1) (.slice (some ⟨g, 0, none⟩) (fs.length + 1) cap1) (fs ++ [(.slice wfa wfn wfc, f)]) wd') := ZRw.app fd_keeps HFD.out _ _ HFP.out (fun k hk => ⟨by omega, by omega, fun e => by have := HOB.out k e; omega⟩) hown hgrow hat
            replace HBX := hide (HBX.out.below hbg (by omega))
            replace HRi := hide (HRi.out.belowB hbg (by omega))
            replace HTi := hide (HTi.out.belowB hbg (by omega))
            have hze := hbg.size
            clear hown hgrow hat hbg HFD HFP HNW HOB
            refine hK.out _ _ (fun _ => HBX.out.cell 1) (fun hHeld => ?_)
            replace hHeld := hHeld (by decide)
            clear hK KK
            try simp only [Act.put, List.getElem_toArray, List.getElem_cons_succ, List.getElem_cons_zero, List.setIfInBounds_toArray, List.set_cons_zero, List.set_cons_succ]
            refine wpAnyB_take [11] (i := 10) (v := .pointer (some ⟨σ, 1, none⟩)) rfl (by kernel_rfl) (by kernel_rfl) (by kernel_rfl) (by kernel_rfl) (fun _ _ _ h => h) (Or.inl ⟨by rfl, fun W hW => by go_simp⟩) hHeld ?_
            try simp only [Act.put, List.getElem_toArray, List.getElem_cons_succ, List.getElem_cons_zero, List.setIfInBounds_toArray, List.set_cons_zero, List.set_cons_succ]
            refine wpAnyB_one (i := 11) (by kernel_rfl) rfl (fun KK hK => ?_)
            have c1 := HBX.out.cell 1
            have cf := HBX.out.free
            go_simp
            refine hK.out _ _ (fun h => absurd (by decide) h) (fun _ => ?_)
            clear hK KK c1 cf hHeld
            try simp only [Act.put, List.getElem_toArray, List.getElem_cons_succ, List.getElem_cons_zero, List.setIfInBounds_toArray, List.set_cons_zero, List.set_cons_succ]
            refine wpAnyB_done (by kernel_rfl) ?_ _
            obtain ⟨we', hwe⟩ : ∃ vv, vv = wd'.setCell ⟨σ, 1, none⟩ (.slice (some ⟨g, 0, none⟩) (fs.length + 1) cap1) := ⟨_, rfl⟩
            rw [← hwe]
            have BXN : Hid (Box we' σ #[.string kk, .slice (some ⟨g, 0, none⟩) (fs.length + 1) cap1]) := by unfold Hid; rw [hwe]; exact put_cell HBX.out 1 (by simp) _
            have FDN : Hid (FdsG (σ + 1) (.slice (some ⟨g, 0, none⟩) (fs.length + 1) cap1) (fs ++ [(.slice wfa wfn wfc, f)]) we') := by unfold Hid; rw [hwe]; exact ZRw.set fd_keeps HFN.out (by show σ < σ + 1; omega) _
            have RDN : Hid (Rd we' ρ q2 bs) := by unfold Hid; rw [hwe]; exact HRi.out.other hρσ _
            have TCN : Hid (Tch ρ wR we') := by unfold Hid; rw [hwe]; exact HTi.out.other (by omega) _
            clear hwe HBX HFN HRi HTi
            go_wp2
            go_roundw
            case rel => exact ⟨fs.length + 1, q2, _, _, by go_num, by omega, by simp, BXN.out, FDN.out, RDN.out, by omega, by omega, TCN.out⟩
            case measure => simp [intOf]; omega
          · have hjl' : ¬ (fs.length : Int) < (n7 : Int) := by omega
            have c : ∀ i, wr.cell? ⟨σ, i, none⟩ = _ := HBX.out.cell
            have HSI := hide (ZRw.tch sh_keeps HSG.out HTi.out (by omega))
            have HSA := hide (ZRw.below sh_keeps HSI.out (one_al wr (.cells #[.string kk, .slice fa fs.length fc] 45)))
            have HFA := hide (ZRw.below fd_keeps HFD.out (one_al wr (.cells #[.string kk, .slice fa fs.length fc] 45)))
            have HZA : Hid ((wr.alloc (.cells #[.string kk, .slice fa fs.length fc] 45)).heap.size = wr.heap.size + 1) := by unfold Hid; simp
            have hzi := HTi.out.size
            go_wp2_with (at_builtin; refine wpList_append_lies _ rfl (.tmp 47) (.tmp 49) 23 rfl w1.heap.size 45 i2 (.agg #[.string ⟨#[]⟩, .slice none 0 0]) 2 40 Tryz.underlying23 HI2.out.1 HI2.out.2.1 HI2.out.2.2.1 HI2.out.2.2.2 rfl (by decide) _ _ _ rfl HSA.out.own ⟨wr.heap.size, 0, none⟩ 1 1 [.string kk, .slice fa fs.length fc] rfl rfl (cells_new _ _ [.string kk, .slice fa fs.length fc] _ rfl) (fun u hu => by simp at hu; rcases hu with rfl | rfl <;> rfl) (by decide) (by unfold maxLen; omega) (by omega) (by simp; omega) _ rfl ?_; intro g cap1 w9 hown hgrow hat hltg)
            have hbg : Below w1.heap.size _ w9 := owns_grown HSA.out.own hgrow (by have := HZA.out; omega)
            have hSP : ShP (fun k => σ < k ∧ k < wr.heap.size) (wr.alloc (.cells #[.string kk, .slice fa fs.length fc] 45)) ⟨.slice fa fs.length fc, kk, fs⟩ :=
              ⟨HNK.out, by show fs.length ≤ 10; omega, owns_lo HFA.out.own (Nat.zero_le _), fun k hk => ⟨(owns_lt HFD.out.own hk).2, (owns_lt HFD.out.own hk).1⟩, fun y hy => by
                obtain ⟨K', h1, h2⟩ := HFD.out.inn y hy
                refine fd_keeps _ wr _ y ⟨h1.1, h1.2.mono fun k hk => ⟨(h2 k hk).1, (h2 k hk).2.1⟩⟩ fun k hk => (one_al wr _).block k hk.2⟩
            have HSN : Hid (ShsG w1.heap.size (.slice (some ⟨g, 0, none⟩) (L.length + 1) cap1) (L ++ [⟨.slice fa fs.length fc, kk, fs⟩]) w9) := ZRw.app sh_keeps HSA.out _ _ hSP (fun k hk => ⟨by omega, by have := HZA.out; omega, fun e => by have := HOBL.out k e; omega⟩) hown hgrow hat
            have RDN : Hid (Rd w9 ρ q' bs) := (HRi.out.below (one_al wr _)).belowB hbg (by omega)
            have TCN : Hid (Tch ρ w1 w9) := ((HTC.out.trans HTi.out).trans (Tch.below (one_al wr _))).belowB hbg (Nat.le_refl _)
            clear hSP hbg hown hgrow hat
            go_roundw
            case rel => exact ⟨L.length + 1, q', _, by go_num, by omega, by simp, HSN.out, RDN.out, by omega, by omega, TCN.out⟩
            case measure => simp [intOf]; omega
    · have HTT : Hid (Tch ρ w wr) := HT0.out.trans HTC.out
      go_wp2
      go_ret
      exact ⟨_, L, rfl, HSG.out.mono (by omega), by omega, by omega, ⟨q, by omega, by omega, HRD.out⟩, HTT.out⟩
end Go.Proofs.YtjkkbkdpoebfaaaGreat
