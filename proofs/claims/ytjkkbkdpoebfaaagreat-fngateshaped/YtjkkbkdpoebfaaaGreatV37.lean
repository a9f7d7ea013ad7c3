import Derived.Test.YtjkkbkdpoebfaaaGreatV36
namespace Go.Proofs.YtjkkbkdpoebfaaaGreat
open Go.RowKit Go.Deep

section
variable {lo B : Nat} {v : Value} {L : List SX} {W W' : World}
theorem SpR.cells {ob oc : Nat} (h : SpR lo B (.slice (some ⟨ob, 0, none⟩) L.length oc) L W) (i : Nat) (hi : i < L.length) : W.cell? ⟨ob, i * 2, none⟩ = some (.string L[i].kd) ∧ W.cell? ⟨ob, i * 2 + 1, none⟩ = some L[i].fv := by
  have h1 := (owns_cell h.row (W' := W) rfl).2.2
  have hj : i * 2 + 1 < L.length * 2 := by omega
  exact ⟨(h1 (i * 2) (by omega)).trans (flatC_at shC 2 shC_len L i 0 hi (by omega)), (h1 (i * 2 + 1) hj).trans (flatC_at shC 2 shC_len L i 1 hi (by omega))⟩
theorem SpR.cells' {ob oc n : Nat} (h : SpR lo B (.slice (some ⟨ob, 0, none⟩) n oc) L W) (hn : L.length = n) (i : Nat) (hi : i < L.length) : W.cell? ⟨ob, i * 2, none⟩ = some (.string L[i].kd) ∧ W.cell? ⟨ob, i * 2 + 1, none⟩ = some L[i].fv := by
  subst hn
  exact h.cells i hi
theorem sets_other (b k : Nat) (hk : k ≠ b) : ∀ (vs : List Value) (o : Nat) (w : World), (w.setCells b o vs).heap[k]? = w.heap[k]?
  | [], _, _ => rfl
  | v :: vs, o, w => (sets_other b k hk vs (o + 1) (w.setCell ⟨b, o, none⟩ v)).trans (Below.heap_setCell w ⟨b, o, none⟩ v k hk)
/-- with other kinds -/
theorem SpR.rekind (h : SpR lo B v L W) (L2 : List SX) (hl : L2.length = L.length) (hk2 : ∀ x ∈ L2, x.kd.size ≤ 1000) (he : ∀ j (hj : j < L2.length) (hj' : j < L.length), L2[j].fv = L[j].fv ∧ L2[j].fs = L[j].fs) (hrow : W'.ownsRow B 45 2 v L2.length (flatC shC L2)) (hk : ∀ k, k < W.heap.size → lo ≤ k → v.ownBlock ≠ some k → W'.heap[k]? = W.heap[k]?) (hs : W.heap.size ≤ W'.heap.size) : ShsG lo v L2 W' := by
  have hb := h.bw
  refine ⟨owns_lo hrow hb.1, fun x hx => ?_⟩
  have hkd := hk2 x hx
  obtain ⟨j, hj, rfl⟩ := List.getElem_of_mem hx
  have hj' : j < L.length := by omega
  have hm := List.getElem_mem hj'
  obtain ⟨e1, e2⟩ := he j hj hj'
  have h1 := h.own _ hm
  refine ⟨fun k => (lo ≤ k ∧ k < B) ∨ L[j].fv.ownBlock = some k, ⟨hkd, by rw [e2]; exact h.n _ hm, ?_, fun k hK => ?_, fun y hy => ?_⟩, fun k hK => ?_⟩
  · rw [e1, e2]
    exact owns_lo (owns_kept h1 fun k hv => hk k (owns_lt h1 hv).1 (by have := (owns_lt h1 hv).2; omega) (h.ap _ hm k hv)) (Nat.zero_le _)
  · rw [e1] at hK; exact Or.inr hK
  · rw [e2] at hy
    have h2 := fd_keeps _ _ W' _ (h.inn _ hm y hy) fun k hK => hk k (by omega) hK.1 (fun e => by have := (owns_lt h.row e).2; omega)
    exact ⟨h2.1, h2.2.mono fun _ hK => Or.inl hK⟩
  · rcases hK with hK | hK
    · exact ⟨hK.1, by omega, fun e => by have := (owns_lt h.row e).2; omega⟩
    · have h3 := owns_lt h1 hK
      exact ⟨by omega, by omega, h.ap _ hm k hK⟩
end

set_option maxRecDepth 20000 in
set_option maxHeartbeats 16000000 in
theorem l1SpoilShapes_any (lo ρ p : Nat) (bs : List UInt8) (v : Value) (L : List SX) (w : World) (h : Rd w ρ p bs) (hp : p ≤ 700000000) (hS : ShsG lo v L w) (hl : ρ < lo) (hL : L.length ≤ 3) (hlo : lo ≤ w.heap.size) :
    Calls Tryz.prog 50 #[.pointer (some ⟨ρ, 0, none⟩), v] w fun e w' => ∃ (v' : Value) (L' : List SX), e = .returned v' ∧ ShsG lo v' L' w' ∧ L'.length ≤ 10 ∧ (∃ q, p ≤ q ∧ q ≤ p + 100 ∧ Rd w' ρ q bs) ∧ Tch ρ w w' := by
  obtain ⟨i1, f1, f2, f3, f4⟩ := info_parts fieldInfo
  obtain ⟨i2, s1, s2, s3, s4⟩ := info_parts shapeInfo
  have HI1 := hide (And.intro f1 (And.intro f2 (And.intro f3 f4)))
  have HI2 := hide (And.intro s1 (And.intro s2 (And.intro s3 s4)))
  clear f1 f2 f3 f4 s1 s2 s3 s4
  have HR := hide h
  have hlt := h.lt
  have HSG := hide hS
  obtain ⟨va, vc, rfl⟩ := ZRw.form hS
  clear h hS
  go_enter Tryz.func50, Tryz.ntmps50
  go_upto_region 2 with fail
  generalize hW1 : w.alloc _ = w1
  have HB : Hid (Below w.heap.size w w1) := by unfold Hid; rw [← hW1]; exact one_al _ _
  have HO : Hid (SpR lo w.heap.size (.slice (some ⟨w.heap.size, 0, none⟩) 0 0) [] w1) := by unfold Hid; rw [← hW1]; exact SpR.made w _ rfl hlo
  clear hW1
  go_wp2
  go_loopw [5, 6] (fun v i wr => ∃ (k : Nat) (L' : List SX), i = .int .i64 k ∧ k ≤ L.length ∧ L'.length = k ∧ SpR lo w.heap.size v L' wr ∧ Below w.heap.size w wr) (fun _ i _ => L.length - (intOf i).toNat)
  case atStart => exact ⟨0, [], rfl, Nat.zero_le _, rfl, HO.out, HB.out⟩
  case round =>
    obtain ⟨k, L', rfl, hk, hLk, hG, hb⟩ := hrel
    replace HO := hide hG
    replace HB := hide hb
    have HLK := hide hLk
    have hL3 : L'.length ≤ 3 := by omega
    obtain ⟨oa, oc, rfl⟩ := hG.form
    clear hG hb hLk
    by_cases hkl : k < L.length
    · obtain ⟨sb, rfl⟩ : ∃ sb, va = some ⟨sb, 0, none⟩ := by
        rcases HSG.out.own.2 with ⟨hv, hn⟩ | ⟨g, cap', cur, hv, _⟩
        · omega
        · cases hv; exact ⟨_, rfl⟩
      have HSr := hide (ZRw.below sh_keeps HSG.out HB.out)
      obtain ⟨-, hsb, -, k0⟩ := ZRw.cell HSr.out shC_len hkl (j := 0) (by omega)
      obtain ⟨-, -, -, k1⟩ := ZRw.cell HSr.out shC_len hkl (j := 1) (by omega)
      obtain ⟨KX, hP, hKX⟩ := HSG.out.inn _ (List.getElem_mem hkl)
      obtain ⟨⟨fv, kd, fs⟩, hx⟩ : ∃ x, L[k] = x := ⟨_, rfl⟩
      rw [hx] at k0 k1 hP
      simp only [shC, List.getElem?_cons_zero, List.getElem?_cons_succ, Nat.add_zero] at k0 k1
      have HP := hide hP
      have HKX := hide hKX
      have hfn : fs.length ≤ 10 := hP.n
      have HKD : Hid (kd.size ≤ 1000) := hP.kd
      obtain ⟨fa, fc, rfl⟩ : ∃ a c, fv = .slice a fs.length c := owns_form hP.own
      clear hP hKX hx HSr
      have hix : (k : Int) < (L.length : Int) := by omega
      go_upto_region 6 with fail
      clear k0 k1 hix
      generalize hW2 : wr.alloc _ = w2
      have hba : Below wr.heap.size wr w2 := by rw [← hW2]; exact one_al _ _
      have BS : Hid (Box w2 wr.heap.size #[.string kd, .slice fa fs.length fc]) := by unfold Hid; rw [← hW2]; exact Box.new _ _ _ _ rfl
      have hz2 : wr.heap.size < w2.heap.size := BS.out.lt
      have hzr := HB.out.size
      have HB2 : Hid (Below wr.heap.size wr w2) := hba
      have HBw2 : Hid (Below w.heap.size w w2) := HB.out.trans (hba.mono hzr)
      clear hW2 hba hsb
      have RE : Hid ((w2.alloc (.cells #[] 56)).ownsRow w.heap.size 56 11 (.slice (some ⟨w2.heap.size, 0, none⟩) 0 0) 0 []) := World.ownsRow_made (base := w.heap.size) (e := 56) (size := 11) w2 #[] 0 (by omega) (Nat.zero_le _) (by simp)
      have HFN : Hid (fa = none → fs.length = 0) := fun e => by
        rcases HP.out.own.2 with ⟨hv, hn⟩ | ⟨g, cap', cur, hv, _⟩
        · exact hn
        · subst e; cases hv
      have NWS : Hid (∀ ad, fa = some ad → ∀ j u, (flatC fdC fs)[j]? = some u → (w2.alloc (.cells #[] 56)).cell? (ad.add j) = some u) := fun ad e => by
        subst e
        have hlt3 := (owns_lt HP.out.own (g := ad.block) rfl).1
        obtain ⟨fg, rfl⟩ : ∃ fg, ad = ⟨fg, 0, none⟩ := by
          rcases HP.out.own.2 with ⟨hv, hn⟩ | ⟨g, cap', cur, hv, _⟩
          · cases hv
          · cases hv; exact ⟨_, rfl⟩
        exact owns_news HP.out.own ((HBw2.out.trans ((one_al w2 _).mono HBw2.out.size)).block fg hlt3)
      have ONE : Hid (∀ u ∈ flatC fdC fs, u.oneCell' = true) := flatF_one fs fun y hy => (HP.out.inn y hy).2.form
      have b : ∀ i, w2.cell? ⟨wr.heap.size, i, none⟩ = #[.string kd, .slice fa fs.length fc][i]? := BS.out.cell
      have bl := BS.out.lt
      go_upto_region 7 with (at_builtin; go_loud (refine wpList_append_two rfl (.tmp 21) (.tmp 23) 34 rfl w.heap.size 56 i1 (.agg #[.string ⟨#[]⟩, .int .i64 0, .int .i64 0, .int .i64 0, .slice none 0 0, .string ⟨#[]⟩, .int .i64 0, .bool false, .bool false, .string ⟨#[]⟩, .string ⟨#[]⟩]) 11 128 Tryz.underlying34 HI1.out.1 HI1.out.2.1 HI1.out.2.2.1 HI1.out.2.2.2 rfl (by decide) w2.heap.size rfl RE.out fa fs.length fc (flatC fdC fs) rfl (flatC_len fdC 11 fdC_len fs) HFN.out NWS.out ONE.out (by unfold maxLen; omega) (by omega) (by simp; omega) ?_; intro v1 w3 hown hgrow hat; obtain ⟨x1, y1, rfl⟩ := owns_form hown; have BX3 := hide (box_blkE (BS.out.on (one_al w2 (.cells #[] 56))) (hgrow.block wr.heap.size (by simp; omega) (by simp; omega)) hgrow.size); have o9 := BX3.out.cell 1; have f9 := BX3.out.free; have l9 := BX3.out.lt))
      clear b bl o9 f9 l9
      have hz3 : w2.heap.size + 1 ≤ w3.heap.size := by have := hgrow.size; simpa using this
      have HV1 : Hid (∀ k, (Value.slice x1 fs.length y1).ownBlock = some k → wr.heap.size < k) := fun k hk => by
        rcases hat with h | h
        · rw [hk] at h; cases h; omega
        · rw [hk] at h; cases h; simp; omega
      have HB3 : Hid (Below wr.heap.size wr w3) := (HB2.out.trans ((one_al w2 _).mono HB2.out.size)).trans ⟨hgrow.os, hgrow.tape, hgrow.output, hgrow.size, fun k hk => hgrow.block k (by simp; omega) (by simp; omega)⟩
      have OW3 := hide hown
      generalize hW4 : w3.setCell _ _ = w4
      have BS4 : Hid (Box w4 wr.heap.size #[.string kd, .slice x1 fs.length y1]) := by unfold Hid; rw [← hW4]; exact put_cell BX3.out 1 (by simp) _
      have OW4 : Hid (w4.ownsRow w.heap.size 56 11 (.slice x1 fs.length y1) fs.length (flatC fdC fs)) := by unfold Hid; rw [← hW4]; exact owns_kept OW3.out fun k hk => Below.heap_setCell _ _ _ k (by have := HV1.out k hk; show k ≠ wr.heap.size; omega)
      have HB4 : Hid (Below wr.heap.size wr w4) := by unfold Hid; rw [← hW4]; exact HB3.out.setCell (Nat.le_refl _) _
      have hz4 : w3.heap.size ≤ w4.heap.size := by rw [← hW4]; simp [World.setCell]
      clear hW4 hown hgrow hat BX3 OW3 HB3 RE NWS BS HB2 HBw2
      have HO4 := hide (HO.out.below HB4.out)
      have HBw4 : Hid (Below w.heap.size w w4) := HB.out.trans (HB4.out.mono hzr)
      have c : ∀ i, w4.cell? ⟨wr.heap.size, i, none⟩ = #[.string kd, .slice x1 fs.length y1][i]? := BS4.out.cell
      have cl := BS4.out.lt
      have HOA := hide (HO4.out.below (one_al w4 (.cells #[.string kd, .slice x1 fs.length y1] 45)))
      have OWA := hide (owns_kept (W' := w4.alloc (.cells #[.string kd, .slice x1 fs.length y1] 45)) OW4.out fun q hq => (one_al w4 _).block q (owns_lt OW4.out hq).1)
      have HZA : Hid ((w4.alloc (.cells #[.string kd, .slice x1 fs.length y1] 45)).heap.size = w4.heap.size + 1) := by unfold Hid; simp
      have HBA : Hid (Below w.heap.size w (w4.alloc (.cells #[.string kd, .slice x1 fs.length y1] 45))) := HBw4.out.trans ((one_al w4 _).mono HBw4.out.size)
      go_wp2_with (at_builtin; refine wpList_append_lies _ rfl (.tmp 26) (.tmp 28) 23 rfl w.heap.size 45 i2 (.agg #[.string ⟨#[]⟩, .slice none 0 0]) 2 40 Tryz.underlying23 HI2.out.1 HI2.out.2.1 HI2.out.2.2.1 HI2.out.2.2.2 rfl (by decide) _ _ _ rfl HOA.out.row ⟨w4.heap.size, 0, none⟩ 1 1 [.string kd, .slice x1 fs.length y1] rfl rfl (cells_new _ _ [.string kd, .slice x1 fs.length y1] _ rfl) (fun u hu => by simp at hu; rcases hu with rfl | rfl <;> rfl) (by decide) (by unfold maxLen; omega) (by omega) (by simp; omega) _ rfl ?_; intro g cap1 w9 hown hgrow hat hltg)
      clear c cl
      have hbg : Below w.heap.size _ w9 := owns_grown HOA.out.row hgrow (by have := HZA.out; omega)
      have HSN : Hid (SpR lo w.heap.size (.slice (some ⟨g, 0, none⟩) (L'.length + 1) cap1) (L' ++ [⟨.slice x1 fs.length y1, kd, fs⟩]) w9) := SpR.app HOA.out ⟨.slice x1 fs.length y1, kd, fs⟩ HKD.out hfn OWA.out (fun y hy => by
        have h2 := fd_keeps KX w (w4.alloc (.cells #[.string kd, .slice x1 fs.length y1] 45)) y (HP.out.inn y hy) fun q hq => HBA.out.block q (HKX.out q hq).2.1
        exact ⟨h2.1, h2.2.mono fun q hq => ⟨(HKX.out q hq).1, (HKX.out q hq).2.1⟩⟩) (fun q hq e => by have h1 := HV1.out q hq; have h2 := (owns_lt HO.out.row e).1; omega) (fun y hy q hq e => by have h1 := HV1.out q hq; have h2 := (owns_lt (HO.out.own y hy) e).1; omega) hown hgrow hat
      have HBN : Hid (Below w.heap.size w w9) := HBA.out.trans hbg
      clear hbg hown hgrow hat
      have hLn := HLK.out
      go_roundw
      case rel => exact ⟨k + 1, _, by go_num, by omega, by rw [List.length_append, hLn]; rfl, HSN.out, HBN.out⟩
      case measure => simp [intOf]; omega
    · replace HR := hide (HR.out.below HB.out)
      have HT : Hid (Tch ρ w wr) := Tch.below HB.out
      clear HB HSG HLK
      by_cases hL0 : L'.length = 0
      · have hL0' : (L'.length : Int) = 0 := by omega
        go_wp2_with fail
        refine (ofBuilt_any ρ p bs _ _ 3 wr HR.out (by omega) (by decide) rfl (by decide) (by decide)).mono ?_
        rintro e w5 ⟨s, rfl, hs, hr, ht⟩
        replace HT := hide (HT.out.trans ht)
        have hzs := HT.out.size
        go_wp2
        go_ret
        have HOM : Hid (World.ownsRow _ lo 45 2 _ 1 (flatC shC [⟨.slice none 0 0, s, []⟩])) := owns_built (base := lo) (n := 1) (sz := 2) (e := 45) w5 (flatC shC [⟨.slice none 0 0, s, []⟩]) (by omega) (by unfold maxLen; omega) rfl
        exact ⟨_, [⟨.slice none 0 0, s, []⟩], rfl, ⟨HOM.out, fun x hx => ⟨fun _ => False, by rw [List.mem_singleton.1 hx]; exact ⟨hs, Nat.zero_le _, World.ownsRow_nil _ _ _ _, (fun k hk => by cases hk), (fun y hy => by cases hy)⟩, fun k hk => hk.elim⟩⟩, by simp, ⟨p + 1, by omega, by omega, hr.below (one_al _ _)⟩, HT.out.trans (Tch.below (one_al _ _))⟩
      have hL1 : ¬ ((L'.length : Int) = 0) := by omega
      obtain ⟨ob, rfl⟩ : ∃ ob, oa = some ⟨ob, 0, none⟩ := by
        rcases HO.out.row.2 with ⟨hv, hn⟩ | ⟨g, cap', cur, hv, _⟩
        · omega
        · cases hv; exact ⟨_, rfl⟩
      have hob := (owns_lt HO.out.row (g := ob) rfl).2
      go_wp2_with fail
      refine (pick_any ρ p bs L'.length wr HR.out (by omega) (by omega) (by omega)).mono ?_
      rintro e w5 ⟨x, rfl, hx0, hx1, hr, ht⟩
      obtain ⟨i, rfl⟩ := Int.eq_ofNat_of_zero_le hx0
      have hi : i < L'.length := by omega
      have hii : (i : Int) < (L'.length : Int) := by omega
      replace HO := hide (HO.out.tch ht hl)
      replace HR := hide hr
      replace HT := hide (HT.out.trans ht)
      clear hr ht hx0 hx1
      go_wp2_with fail
      refine (pick_any ρ (p + 1) bs 6 w5 HR.out (by omega) (by decide) (by decide)).mono ?_
      rintro e w6 ⟨x6, rfl, hx60, hx61, hr, ht⟩
      replace HO := hide (HO.out.tch ht hl)
      replace HR : Hid (Rd w6 ρ (p + 2) bs) := hr
      replace HT := hide (HT.out.trans ht)
      clear hr ht
      have hz6 := HT.out.size
      have h6 : x6 = 0 ∨ x6 = 1 ∨ x6 = 2 ∨ x6 = 3 ∨ x6 = 4 ∨ x6 = 5 := by omega
      clear hx60 hx61
      rcases h6 with rfl | rfl | rfl | rfl | h45
      · go_wp2_with fail
        refine (ofBuilt_any ρ (p + 2) bs _ _ 4 w6 HR.out (by omega) (by decide) rfl (by decide) (by decide)).mono ?_
        rintro e w7 ⟨s, rfl, hs, hr, ht⟩
        replace HO := hide (HO.out.tch ht hl)
        replace HT := hide (HT.out.trans ht)
        have hc := (HO.out.cells i hi).1
        have hfz := HO.out.row.frozenAt (i * 2)
        have hbl : ob < w7.heap.size := (owns_lt HO.out.row (g := ob) rfl).1
        go_wp2
        go_ret
        have hrow := owns_put HO.out.row (i * 2) (by omega) (.string s)
        rw [flatC_kind L' i hi s] at hrow
        refine ⟨_, L'.set i ⟨L'[i].fv, s, L'[i].fs⟩, rfl, SpR.rekind HO.out (L'.set i ⟨L'[i].fv, s, L'[i].fs⟩) (by simp) (fun x hx => ?_) (fun j hj hj' => ?_) (by rw [List.length_set]; exact hrow) (fun k hk _ hne => Below.heap_setCell _ _ _ k (fun e => hne (by show some ob = some k; rw [e]))) (by simp [World.setCell]), by simp; omega, ⟨p + 3, by omega, by omega, hr.other (by omega) _⟩, HT.out.other (by omega) _⟩
        · rcases List.mem_or_eq_of_mem_set hx with hx | rfl
          · exact HO.out.kd x hx
          · exact hs
        · by_cases e : i = j
          · subst e; simp
          · rw [List.getElem_set_ne e]; exact ⟨rfl, rfl⟩
      · have h0 : 0 < L'.length := by omega
        have hc := HO.out.cells 0 h0
        rw [Nat.zero_mul] at hc
        obtain ⟨c0, c1⟩ := hc
        have hbl : ob < w6.heap.size := (owns_lt HO.out.row (g := ob) rfl).1
        have h0i : (0 : Int) < (L'.length : Int) := by omega
        have HGA := hide (ZRw.below sh_keeps HO.out.toG (one_al w6 (.cells #[.string L'[0].kd, L'[0].fv] 45)))
        obtain ⟨K0, hP0, hK0⟩ := HGA.out.inn L'[0] (List.getElem_mem h0)
        have HP0 := hide hP0
        have HK0 := hide hK0
        clear hP0 hK0
        obtain ⟨⟨xv, xk, xs⟩, hx⟩ : ∃ y, L'[0] = y := ⟨_, rfl⟩
        rw [hx] at c0 c1 HP0 HGA HK0
        simp only [] at c0 c1 HP0 HGA HK0
        clear hx
        obtain ⟨xa, xc, rfl⟩ : ∃ a c, xv = .slice a xs.length c := owns_form HP0.out.own
        go_wp2_with (at_builtin; refine wpList_append_lies _ rfl (.tmp 87) (.tmp 91) 23 rfl lo 45 i2 (.agg #[.string ⟨#[]⟩, .slice none 0 0]) 2 40 Tryz.underlying23 HI2.out.1 HI2.out.2.1 HI2.out.2.2.1 HI2.out.2.2.2 rfl (by decide) _ _ _ rfl HGA.out.own ⟨w6.heap.size, 0, none⟩ 1 1 [.string xk, .slice xa xs.length xc] rfl rfl (cells_new _ _ [.string xk, .slice xa xs.length xc] _ rfl) (fun u hu => by simp at hu; rcases hu with rfl | rfl <;> rfl) (by decide) (by unfold maxLen; omega) (by omega) (by simp; omega) _ rfl ?_; intro g cap1 w9 hown hgrow hat hltg)
        have hbg : Below w.heap.size _ w9 := grown_below HGA.out.own hgrow (by simp; omega) (fun q hq => by have := own_at hq; omega)
        go_ret
        exact ⟨.slice (some ⟨g, 0, none⟩) (L'.length + 1) cap1, L' ++ [(⟨.slice xa xs.length xc, xk, xs⟩ : SX)], rfl, ZRw.app sh_keeps HGA.out ⟨.slice xa xs.length xc, xk, xs⟩ K0 HP0.out HK0.out hown hgrow hat, by simp; omega, ⟨p + 2, by omega, by omega, (HR.out.below (one_al _ _)).belowB hbg (by omega)⟩, (HT.out.trans (Tch.below (one_al _ _))).belowB hbg (Nat.le_refl _)⟩
      · go_wp2
        go_loopw [5] (fun v wr => ∃ (q : Nat) (L2 : List SX), ShsG lo v L2 wr ∧ (∀ b, v.ownBlock = some b → w.heap.size ≤ b) ∧ L2.length ≤ 7 ∧ Rd wr ρ q bs ∧ p + 2 ≤ q ∧ q ≤ p + 2 + L2.length ∧ Tch ρ w wr) (fun v _ => 40 - sliceN v)
        case atStart => exact ⟨p + 2, L', HO.out.toG, fun b hb => by have := own_at hb; omega, by omega, HR.out, Nat.le_refl _, by omega, HT.out⟩
        case round =>
          obtain ⟨q, L2, hG, hnb, hL2, hrd, hq1, hq2, htc⟩ := hrel
          have HG := hide hG
          have HNB := hide hnb
          replace HR := hide hrd
          replace HT := hide htc
          obtain ⟨za, zc, rfl⟩ := ZRw.form hG
          clear hG hnb hrd htc HO
          go_wp2_with fail
          refine (pick_any ρ q bs 2 wr HR.out (by omega) (by decide) (by decide)).mono ?_
          rintro e wa ⟨x9, rfl, hx90, hx91, hr, ht⟩
          have hw9 : wrap64 (6 + x9) = 6 + x9 := by unfold wrap64; omega
          replace HG := hide (ZRw.tch sh_keeps HG.out ht hl)
          replace HR := hide hr
          replace HT := hide (HT.out.trans ht)
          clear hr ht
          by_cases hlt9 : (L2.length : Int) < 6 + x9
          · go_wp2_with fail
            refine (l4DecN_any 9 L2.length (by omega) (by omega) (by omega) _).mono ?_
            rintro e wb ⟨sd, rfl, hsd, hb⟩
            replace HG := hide (ZRw.below sh_keeps HG.out hb)
            replace HR := hide (HR.out.below hb)
            replace HT := hide (HT.out.trans (Tch.below hb))
            clear hb
            have had : ∀ W, (Op.stringOp .add ⟨#[122, 122]⟩ sd).run Tryz.prog W = .ok (.string (⟨#[122, 122]⟩ ++ sd)) W := fun W => run_string_add_sum (P := Tryz.prog) (w := W) ⟨#[122, 122]⟩ sd (by have e1 : (⟨#[122, 122]⟩ : ByteArray).size = 2 := rfl; omega)
            have HNM : Hid ((⟨#[122, 122]⟩ ++ sd : ByteArray).size ≤ 1000) := by unfold Hid; rw [ByteArray.size_append]; have e1 : (⟨#[122, 122]⟩ : ByteArray).size = 2 := rfl; omega
            generalize (⟨#[122, 122]⟩ ++ sd : ByteArray) = nmf at *
            have HGA := hide (ZRw.below sh_keeps HG.out (one_al wb (.cells #[.string nmf, .slice none 0 0] 45)))
            have hzb := HT.out.size
            go_wp2_with (at_builtin; refine wpList_append_lies _ rfl (.tmp 101) (.tmp 107) 23 rfl lo 45 i2 (.agg #[.string ⟨#[]⟩, .slice none 0 0]) 2 40 Tryz.underlying23 HI2.out.1 HI2.out.2.1 HI2.out.2.2.1 HI2.out.2.2.2 rfl (by decide) _ _ _ rfl HGA.out.own ⟨wb.heap.size, 0, none⟩ 1 1 [.string nmf, .slice none 0 0] rfl rfl (cells_new _ _ [.string nmf, .slice none 0 0] _ rfl) (fun u hu => by simp at hu; rcases hu with rfl | rfl <;> rfl) (by decide) (by unfold maxLen; omega) (by omega) (by simp; omega) _ rfl ?_; intro g cap1 w9 hown hgrow hat hltg)
            have hbg : Below w.heap.size _ w9 := grown_below HGA.out.own hgrow (by simp; omega) HNB.out
            have HGN : Hid (ShsG lo (.slice (some ⟨g, 0, none⟩) (L2.length + 1) cap1) (L2 ++ [⟨.slice none 0 0, nmf, []⟩]) w9) := ZRw.app sh_keeps HGA.out ⟨.slice none 0 0, nmf, []⟩ (fun _ => False) ⟨HNM.out, Nat.zero_le _, World.ownsRow_nil _ _ _ _, (fun k hk => by cases hk), (fun y hy => by cases hy)⟩ (fun k hk => hk.elim) hown hgrow hat
            have HNN : Hid (∀ b, (Value.slice (some ⟨g, 0, none⟩) (L2.length + 1) cap1).ownBlock = some b → w.heap.size ≤ b) := fun b hb => by
              have e := own_at hb
              subst e
              rcases hat with hat | hat
              · exact HNB.out g hat
              · have h3 : g = wb.heap.size + 1 := by simpa using hat
                omega
            have HRN : Hid (Rd w9 ρ (q + 1) bs) := (HR.out.below (one_al _ _)).belowB hbg (by omega)
            have HTN : Hid (Tch ρ w w9) := (HT.out.trans (Tch.below (one_al _ _))).belowB hbg (Nat.le_refl _)
            clear hown hgrow hat hbg had
            go_roundw
            case rel => exact ⟨q + 1, _, HGN.out, HNN.out, by simp; omega, HRN.out, by omega, by simp; omega, HTN.out⟩
            case measure => simp [sliceN]; omega
          · go_wp2
            go_ret
            exact ⟨_, L2, rfl, HG.out, by omega, ⟨q + 1, by omega, by omega, HR.out⟩, HT.out⟩
      · go_wp2
        go_loopg [] 20 (fun gk wr => ∃ (q : Nat) (L2 : List SX), L2.length = L'.length ∧ SpR lo w.heap.size (.slice (some ⟨ob, 0, none⟩) L'.length oc) L2 wr ∧ (∃ hi2 : i < L2.length, gk + (L2[i]'hi2).fs.length = 20 + (L'[i]'hi).fs.length) ∧ Rd wr ρ q bs ∧ p + 2 ≤ q ∧ q + gk ≤ p + 22 ∧ Tch ρ w wr)
        case atStart => exact ⟨p + 2, L', rfl, HO.out, ⟨hi, rfl⟩, HR.out, Nat.le_refl _, by omega, HT.out⟩
        case round =>
          obtain ⟨q, L2, hL2, hG, ⟨hi2, hgk⟩, hrd, hq1, hq2, htc⟩ := hrel
          replace HO := hide hG
          replace HR := hide hrd
          replace HT := hide htc
          clear hG hrd htc
          have HL2 := hide hL2
          have hc := (HO.out.cells' hL2 i hi2).2
          have hO2 := HO.out.own _ (List.getElem_mem hi2)
          have hN2 := HO.out.n _ (List.getElem_mem hi2)
          have hI2 := HO.out.inn _ (List.getElem_mem hi2)
          have hA2 := HO.out.ap _ (List.getElem_mem hi2)
          have HTU : Hid (∀ (W' : World) (fv : Value) (fs : List (Value × Fd)), fs.length ≤ 10 → W'.ownsRow w.heap.size 45 2 (.slice (some ⟨ob, 0, none⟩) L'.length oc) L2.length (flatC shC (L2.set i ⟨fv, L2[i].kd, fs⟩)) → W'.ownsRow w.heap.size 56 11 fv fs.length (flatC fdC fs) → (∀ y ∈ fs, FdP (fun k => lo ≤ k ∧ k < w.heap.size) W' y) → (∀ k, fv.ownBlock = some k → L2[i].fv.ownBlock = some k ∨ wr.heap.size ≤ k) → (∀ k, k < wr.heap.size → lo ≤ k → (Value.slice (some ⟨ob, 0, none⟩) L'.length oc).ownBlock ≠ some k → L2[i].fv.ownBlock ≠ some k → W'.heap[k]? = wr.heap[k]?) → wr.heap.size ≤ W'.heap.size → SpR lo w.heap.size (.slice (some ⟨ob, 0, none⟩) L'.length oc) (L2.set i ⟨fv, L2[i].kd, fs⟩) W') := fun W' fv fs h1 h2 h3 h4 h5 h6 h7 => HO.out.turn i hi2 fv fs h1 h2 h3 h4 h5 h6 h7
          obtain ⟨⟨fv, kd, fs⟩, hx⟩ : ∃ y, L2[i]'hi2 = y := ⟨_, rfl⟩
          rw [hx] at hc hO2 hN2 hI2 hA2 hgk HTU
          simp only [] at hc hO2 hN2 hI2 hA2 hgk HTU
          have HO2 := hide hO2
          have HI2' := hide hI2
          have HA2 := hide hA2
          have HXE := hide hx
          have HHC := hide hc
          obtain ⟨xa, xc, rfl⟩ := owns_form hO2
          clear hO2 hI2 hA2 hx
          have HRW := hide HO.out.row
          have hn10 : fs.length ≤ 10 := hN2
          have hfgk : gk ≤ 20 + (L'[i]'hi).fs.length := by omega
          have hbl : ob < wr.heap.size := (owns_lt HO.out.row (g := ob) rfl).1
          have hL2i : (i : Int) < (L'.length : Int) := hii
          go_upto_region 23 with fail
          clear hc
          refine wp_region_held_drew (S := fun W => W.cell? ⟨ob, i * 2 + 1, none⟩ = some (.slice xa fs.length xc)) (by kernel_rfl) HHC.out (fun hHeld => ?_)
          refine wpAnyH_take (i := 0) (v := (.slice (some ⟨ob, 0, none⟩) L'.length oc)) rfl (by kernel_rfl) (by kernel_rfl) (by kernel_rfl) (fun _ _ _ h => h) (Or.inl ⟨by rfl, fun W hW => by go_simp⟩) hHeld ?_
          try simp only [Act.put, List.getElem_toArray, List.getElem_cons_zero, List.setIfInBounds_toArray, List.set_cons_zero, List.set_cons_succ]
          refine wpAnyH_take (i := 1) (v := .int .i64 (i : Int)) rfl (by kernel_rfl) (by kernel_rfl) (by kernel_rfl) (fun _ _ _ h => h) (Or.inl ⟨by rfl, fun W hW => by go_simp⟩) hHeld ?_
          try simp only [Act.put, List.getElem_toArray, List.getElem_cons_succ, List.getElem_cons_zero, List.setIfInBounds_toArray, List.set_cons_zero, List.set_cons_succ]
          refine wpAnyH_take (i := 2) (v := .pointer (some ⟨ob, i * 2, none⟩)) rfl (by kernel_rfl) (by kernel_rfl) (by kernel_rfl) (fun _ _ _ h => h) (Or.inl ⟨by rfl, fun W hW => by go_simp⟩) hHeld ?_
          try simp only [Act.put, List.getElem_toArray, List.getElem_cons_succ, List.getElem_cons_zero, List.setIfInBounds_toArray, List.set_cons_zero, List.set_cons_succ]
          refine wpAnyH_take (i := 3) (v := .pointer (some ⟨ob, i * 2 + 1, none⟩)) rfl (by kernel_rfl) (by kernel_rfl) (by kernel_rfl) (fun _ _ _ h => h) (Or.inl ⟨by rfl, fun W hW => by go_simp⟩) hHeld ?_
          try simp only [Act.put, List.getElem_toArray, List.getElem_cons_succ, List.getElem_cons_zero, List.setIfInBounds_toArray, List.set_cons_zero, List.set_cons_succ]
          refine wpAnyH_take (i := 4) (v := .slice xa fs.length xc) rfl (by kernel_rfl) (by kernel_rfl) (by kernel_rfl) (fun _ _ _ h => h) (Or.inl ⟨by rfl, fun W hW => by go_simp⟩) hHeld ?_
          try simp only [Act.put, List.getElem_toArray, List.getElem_cons_succ, List.getElem_cons_zero, List.setIfInBounds_toArray, List.set_cons_zero, List.set_cons_succ]
          refine wpAnyH_take (i := 5) (v := .int .i64 (fs.length : Int)) rfl (by kernel_rfl) (by kernel_rfl) (by kernel_rfl) (fun _ _ _ h => h) (Or.inl ⟨by rfl, fun W hW => by go_simp⟩) hHeld ?_
          try simp only [Act.put, List.getElem_toArray, List.getElem_cons_succ, List.getElem_cons_zero, List.setIfInBounds_toArray, List.set_cons_zero, List.set_cons_succ]
          refine wpAnyH_take (i := 6) (v := .pointer (some ⟨ρ, 0, none⟩)) rfl (by kernel_rfl) (by kernel_rfl) (by kernel_rfl) (fun _ _ _ h => h) (Or.inl ⟨by rfl, fun W hW => by go_simp⟩) hHeld ?_
          try simp only [Act.put, List.getElem_toArray, List.getElem_cons_succ, List.getElem_cons_zero, List.setIfInBounds_toArray, List.set_cons_zero, List.set_cons_succ]
          refine wpAnyH_ready (rs := [7]) (by kernel_rfl) (by simp) ?_
          refine AllReadyH.cons rfl (fun KK hK => ?_) AllReadyH.nil
          go_simp
          refine (pick_any ρ q bs 2 _ (HR.out.below ((Below.refl _ _).drew)) (by omega) (by decide) (by decide)).mono ?_
          rintro e wa ⟨x9, rfl, hx90, hx91, hr, ht⟩
          replace ht : Tch ρ wr wa := (Tch.below ((Below.refl _ _).drew)).trans ht
          have hw9 : IntKind.i64.wrap (6 + x9) = 6 + x9 := by rw [IntKind.wrap_i64]; omega
          have hbl2 : ob < wa.heap.size := by have := ht.size; omega
          have HHA : Hid (wa.cell? ⟨ob, i * 2 + 1, none⟩ = some (.slice xa fs.length xc)) := (ht.cell (p := ⟨ob, _, none⟩) hbl (by show ob ≠ ρ; omega)).trans HHC.out
          have hzw := ht.size
          have HSZ := hide ht
          replace HR : Hid (Rd wa ρ (q + 1) bs) := hr
          replace HT := hide (HT.out.trans ht)
          clear hr ht
          try go_wp2_with fail
          refine hK.out _ _ HHA.out (fun hHeld => ?_)
          clear hK KK
          try simp only [Act.put, List.getElem_toArray, List.getElem_cons_succ, List.getElem_cons_zero, List.setIfInBounds_toArray, List.set_cons_zero, List.set_cons_succ]
          refine wpAnyH_take (i := 8) (v := .int .i64 (6 + x9)) rfl (by kernel_rfl) (by kernel_rfl) (by kernel_rfl) (fun _ _ _ h => h) (Or.inl ⟨by rfl, fun W hW => by go_simp⟩) hHeld ?_
          try simp only [Act.put, List.getElem_toArray, List.getElem_cons_succ, List.getElem_cons_zero, List.setIfInBounds_toArray, List.set_cons_zero, List.set_cons_succ]
          refine wpAnyH_take (i := 9) (v := .bool (decide ((fs.length : Int) < 6 + x9))) rfl (by kernel_rfl) (by kernel_rfl) (by kernel_rfl) (fun _ _ _ h => h) (Or.inl ⟨by rfl, fun W hW => by go_simp⟩) hHeld ?_
          try simp only [Act.put, List.getElem_toArray, List.getElem_cons_succ, List.getElem_cons_zero, List.setIfInBounds_toArray, List.set_cons_zero, List.set_cons_succ]
          refine wpAnyH_done (by kernel_rfl) ?_ _
          by_cases hlt9 : (fs.length : Int) < 6 + x9
          ·
            have hd9 : decide ((fs.length : Int) < 6 + x9) = true := decide_eq_true hlt9
            go_upto_region 24 with fail
            refine wp_region_B (S := fun W => W.cell? ⟨ob, i * 2 + 1, none⟩ = some (.slice xa fs.length xc)) [20] (by kernel_rfl) HHA.out (fun hHeld => ?_)
            refine wpAnyB_take [20] (i := 0) (v := (.slice (some ⟨ob, 0, none⟩) L'.length oc)) rfl (by kernel_rfl) (by kernel_rfl) (by kernel_rfl) (by kernel_rfl) (fun _ _ _ h => h) (Or.inl ⟨by rfl, fun W hW => by go_simp⟩) hHeld ?_
            try simp only [Act.put, List.getElem_toArray, List.getElem_cons_zero, List.setIfInBounds_toArray, List.set_cons_zero, List.set_cons_succ]
            refine wpAnyB_take [20] (i := 1) (v := .int .i64 (i : Int)) rfl (by kernel_rfl) (by kernel_rfl) (by kernel_rfl) (by kernel_rfl) (fun _ _ _ h => h) (Or.inl ⟨by rfl, fun W hW => by go_simp⟩) hHeld ?_
            try simp only [Act.put, List.getElem_toArray, List.getElem_cons_succ, List.getElem_cons_zero, List.setIfInBounds_toArray, List.set_cons_zero, List.set_cons_succ]
            refine wpAnyB_take [20] (i := 2) (v := (.slice (some ⟨ob, 0, none⟩) L'.length oc)) rfl (by kernel_rfl) (by kernel_rfl) (by kernel_rfl) (by kernel_rfl) (fun _ _ _ h => h) (Or.inl ⟨by rfl, fun W hW => by go_simp⟩) hHeld ?_
            try simp only [Act.put, List.getElem_toArray, List.getElem_cons_succ, List.getElem_cons_zero, List.setIfInBounds_toArray, List.set_cons_zero, List.set_cons_succ]
            refine wpAnyB_take [20] (i := 3) (v := .int .i64 (i : Int)) rfl (by kernel_rfl) (by kernel_rfl) (by kernel_rfl) (by kernel_rfl) (fun _ _ _ h => h) (Or.inl ⟨by rfl, fun W hW => by go_simp⟩) hHeld ?_
            try simp only [Act.put, List.getElem_toArray, List.getElem_cons_succ, List.getElem_cons_zero, List.setIfInBounds_toArray, List.set_cons_zero, List.set_cons_succ]
            refine wpAnyB_take [20] (i := 4) (v := .pointer (some ⟨ob, i * 2, none⟩)) rfl (by kernel_rfl) (by kernel_rfl) (by kernel_rfl) (by kernel_rfl) (fun _ _ _ h => h) (Or.inl ⟨by rfl, fun W hW => by go_simp⟩) hHeld ?_
            try simp only [Act.put, List.getElem_toArray, List.getElem_cons_succ, List.getElem_cons_zero, List.setIfInBounds_toArray, List.set_cons_zero, List.set_cons_succ]
            refine wpAnyB_take [20] (i := 5) (v := .pointer (some ⟨ob, i * 2 + 1, none⟩)) rfl (by kernel_rfl) (by kernel_rfl) (by kernel_rfl) (by kernel_rfl) (fun _ _ _ h => h) (Or.inl ⟨by rfl, fun W hW => by go_simp⟩) hHeld ?_
            try simp only [Act.put, List.getElem_toArray, List.getElem_cons_succ, List.getElem_cons_zero, List.setIfInBounds_toArray, List.set_cons_zero, List.set_cons_succ]
            refine wpAnyB_take [20] (i := 6) (v := .slice xa fs.length xc) rfl (by kernel_rfl) (by kernel_rfl) (by kernel_rfl) (by kernel_rfl) (fun _ _ _ h => h) (Or.inl ⟨by rfl, fun W hW => by go_simp⟩) hHeld ?_
            try simp only [Act.put, List.getElem_toArray, List.getElem_cons_succ, List.getElem_cons_zero, List.setIfInBounds_toArray, List.set_cons_zero, List.set_cons_succ]
            refine wpAnyB_take [20] (i := 7) (v := (.slice (some ⟨ob, 0, none⟩) L'.length oc)) rfl (by kernel_rfl) (by kernel_rfl) (by kernel_rfl) (by kernel_rfl) (fun _ _ _ h => h) (Or.inl ⟨by rfl, fun W hW => by go_simp⟩) hHeld ?_
            try simp only [Act.put, List.getElem_toArray, List.getElem_cons_succ, List.getElem_cons_zero, List.setIfInBounds_toArray, List.set_cons_zero, List.set_cons_succ]
            refine wpAnyB_take [20] (i := 8) (v := .int .i64 (i : Int)) rfl (by kernel_rfl) (by kernel_rfl) (by kernel_rfl) (by kernel_rfl) (fun _ _ _ h => h) (Or.inl ⟨by rfl, fun W hW => by go_simp⟩) hHeld ?_
            try simp only [Act.put, List.getElem_toArray, List.getElem_cons_succ, List.getElem_cons_zero, List.setIfInBounds_toArray, List.set_cons_zero, List.set_cons_succ]
            refine wpAnyB_take [20] (i := 9) (v := .pointer (some ⟨ob, i * 2, none⟩)) rfl (by kernel_rfl) (by kernel_rfl) (by kernel_rfl) (by kernel_rfl) (fun _ _ _ h => h) (Or.inl ⟨by rfl, fun W hW => by go_simp⟩) hHeld ?_
            try simp only [Act.put, List.getElem_toArray, List.getElem_cons_succ, List.getElem_cons_zero, List.setIfInBounds_toArray, List.set_cons_zero, List.set_cons_succ]
            refine wpAnyB_take [20] (i := 10) (v := .pointer (some ⟨ob, i * 2 + 1, none⟩)) rfl (by kernel_rfl) (by kernel_rfl) (by kernel_rfl) (by kernel_rfl) (fun _ _ _ h => h) (Or.inl ⟨by rfl, fun W hW => by go_simp⟩) hHeld ?_
            try simp only [Act.put, List.getElem_toArray, List.getElem_cons_succ, List.getElem_cons_zero, List.setIfInBounds_toArray, List.set_cons_zero, List.set_cons_succ]
            refine wpAnyB_take [20] (i := 11) (v := .slice xa fs.length xc) rfl (by kernel_rfl) (by kernel_rfl) (by kernel_rfl) (by kernel_rfl) (fun _ _ _ h => h) (Or.inl ⟨by rfl, fun W hW => by go_simp⟩) hHeld ?_
            try simp only [Act.put, List.getElem_toArray, List.getElem_cons_succ, List.getElem_cons_zero, List.setIfInBounds_toArray, List.set_cons_zero, List.set_cons_succ]
            refine wpAnyB_take [20] (i := 12) (v := .int .i64 (fs.length : Int)) rfl (by kernel_rfl) (by kernel_rfl) (by kernel_rfl) (by kernel_rfl) (fun _ _ _ h => h) (Or.inl ⟨by rfl, fun W hW => by go_simp⟩) hHeld ?_
            try simp only [Act.put, List.getElem_toArray, List.getElem_cons_succ, List.getElem_cons_zero, List.setIfInBounds_toArray, List.set_cons_zero, List.set_cons_succ]
            refine wpAnyB_one (i := 13) (by kernel_rfl) rfl (fun KK hK => ?_)
            go_simp
            have hbd : Below wa.heap.size wa wa.drew := (Below.refl _ _).drew
            refine (l4DecN_any 9 fs.length (by omega) (by omega) (by omega) _).mono ?_
            rintro e wb ⟨sd, rfl, hsd, hb⟩
            replace hb : Below wa.heap.size wa wb := bt hbd hb
            have HHB : Hid (wb.cell? ⟨ob, i * 2 + 1, none⟩ = some (.slice xa fs.length xc)) := (hb.cell (p := ⟨ob, _, none⟩) hbl2).trans HHA.out
            replace HR := hide (HR.out.below hb)
            replace HT := hide (HT.out.trans (Tch.below hb))
            replace HSZ := hide (HSZ.out.trans (Tch.below hb))
            clear hbd hb
            have had : ∀ W, (Op.stringOp .add ⟨#[103]⟩ sd).run Tryz.prog W = .ok (.string (⟨#[103]⟩ ++ sd)) W := fun W => run_string_add_sum (P := Tryz.prog) (w := W) ⟨#[103]⟩ sd (by have e1 : (⟨#[103]⟩ : ByteArray).size = 1 := rfl; omega)
            have HNM : Hid ((⟨#[103]⟩ ++ sd : ByteArray).size ≤ 1000) := by unfold Hid; rw [ByteArray.size_append]; have e1 : (⟨#[103]⟩ : ByteArray).size = 1 := rfl; omega
            generalize (⟨#[103]⟩ ++ sd : ByteArray) = nmf at *
            try go_wp2_with fail
            refine hK.out _ _ (fun _ => HHB.out) (fun hHeld => ?_)
            replace hHeld := hHeld (by decide)
            clear hK KK
            try simp only [Act.put, List.getElem_toArray, List.getElem_cons_succ, List.getElem_cons_zero, List.setIfInBounds_toArray, List.set_cons_zero, List.set_cons_succ]
            refine wpAnyB_take [20] (i := 14) (v := .string nmf) rfl (by kernel_rfl) (by kernel_rfl) (by kernel_rfl) (by kernel_rfl) (fun _ _ _ h => h) (Or.inl ⟨by rfl, fun W hW => by go_simp⟩) hHeld ?_
            try simp only [Act.put, List.getElem_toArray, List.getElem_cons_succ, List.getElem_cons_zero, List.setIfInBounds_toArray, List.set_cons_zero, List.set_cons_succ]
            refine wpAnyB_take [20] (i := 15) (v := .agg #[.string nmf, .int .i64 3, .int .i64 1, .int .i64 1, .slice none 0 0, .string ⟨#[]⟩, .int .i64 0, .bool false, .bool false, .string ⟨#[]⟩, .string ⟨#[]⟩]) rfl (by kernel_rfl) (by kernel_rfl) (by kernel_rfl) (by kernel_rfl) (fun _ _ _ h => h) (Or.inl ⟨by rfl, fun W hW => by go_simp⟩) hHeld ?_
            try simp only [Act.put, List.getElem_toArray, List.getElem_cons_succ, List.getElem_cons_zero, List.setIfInBounds_toArray, List.set_cons_zero, List.set_cons_succ]
            refine wpAnyB_one (i := 16) (by kernel_rfl) rfl (fun KK hK => ?_)
            go_simp
            clear had
            obtain ⟨wc', hwc⟩ : ∃ vv, vv = wb.alloc (.cells #[.string nmf, .int .i64 3, .int .i64 1, .int .i64 1, .slice none 0 0, .string ⟨#[]⟩, .int .i64 0, .bool false, .bool false, .string ⟨#[]⟩, .string ⟨#[]⟩] 56) := ⟨_, rfl⟩
            rw [← hwc]
            have hb : Below wb.heap.size wb wc' := by rw [hwc]; exact one_al _ _
            have HNW : Hid (∀ j x, (fdL ⟨nmf, 3, 1, 1, [], ⟨#[]⟩, 0, false, false, ⟨#[]⟩, ⟨#[]⟩⟩ (.slice none 0 0))[j]? = some x → wc'.cell? ((⟨wb.heap.size, 0, none⟩ : Addr).add j) = some x) := by unfold Hid; rw [hwc]; exact cells_new _ _ (fdL ⟨nmf, 3, 1, 1, [], ⟨#[]⟩, 0, false, false, ⟨#[]⟩, ⟨#[]⟩⟩ (.slice none 0 0)) _ rfl
            have hzb := HSZ.out.size
            have hzd := hb.size
            have HHN : Hid (wc'.cell? ⟨ob, i * 2 + 1, none⟩ = some (.slice xa fs.length xc)) := (hb.cell (p := ⟨ob, _, none⟩) (by show ob < _; omega)).trans HHB.out
            replace HR := hide (HR.out.below hb)
            replace HT := hide (HT.out.trans (Tch.below hb))
            replace HSZ := hide (HSZ.out.trans (Tch.below hb))
            clear hb hwc
            have HO3 := hide (owns_kept (W' := wc') HO2.out fun k hk => HSZ.out.block k (owns_lt HO2.out hk).1 (by have := (owns_lt HO2.out hk).2; omega))
            have hz3 := HT.out.size
            refine hK.out _ _ (fun _ => HHN.out) (fun hHeld => ?_)
            replace hHeld := hHeld (by decide)
            clear hK KK
            try simp only [Act.put, List.getElem_toArray, List.getElem_cons_succ, List.getElem_cons_zero, List.setIfInBounds_toArray, List.set_cons_zero, List.set_cons_succ]
            refine wpAnyB_one (i := 17) (by kernel_rfl) rfl (fun KK hK => ?_)
            refine step_append_lies _ (by rfl) (.tmp 127) (.tmp 137) 34 (by rfl) w.heap.size 56 i1 (.agg #[.string ⟨#[]⟩, .int .i64 0, .int .i64 0, .int .i64 0, .slice none 0 0, .string ⟨#[]⟩, .int .i64 0, .bool false, .bool false, .string ⟨#[]⟩, .string ⟨#[]⟩]) 11 128 Tryz.underlying34 HI1.out.1 HI1.out.2.1 HI1.out.2.2.1 HI1.out.2.2.2 (by rfl) (by decide) (.slice xa fs.length xc) fs.length (flatC fdC fs) (by rfl) HO3.out ⟨wb.heap.size, 0, none⟩ 1 1 (fdL ⟨nmf, 3, 1, 1, [], ⟨#[]⟩, 0, false, false, ⟨#[]⟩, ⟨#[]⟩⟩ (.slice none 0 0)) (by rfl) (by rfl) HNW.out (all_one _ _ _ _) (by decide) (by unfold maxLen; omega) (by omega) (by omega) _ rfl ?_
            intro g cap1 wd' hown hgrow hat hltg
            have hbg : Below w.heap.size wc' wd' := owns_grown HO3.out hgrow (by omega)
            have HFN : Hid (wd'.ownsRow w.heap.size 56 11 (.slice (some ⟨g, 0, none⟩) (fs.length + 1) cap1) (fs.length + 1) (flatC fdC fs ++ fdL ⟨nmf, 3, 1, 1, [], ⟨#[]⟩, 0, false, false, ⟨#[]⟩, ⟨#[]⟩⟩ (.slice none 0 0))) := hown
            have HGN : Hid ((Value.slice xa fs.length xc).ownBlock = some g ∨ wr.heap.size ≤ g) := by
              rcases hat with hat | hat
              · exact Or.inl hat
              · exact Or.inr (by omega)
            have HKE : Hid (∀ k, k < wr.heap.size → k ≠ ρ → (Value.slice xa fs.length xc).ownBlock ≠ some k → wd'.heap[k]? = wr.heap[k]?) := fun k h1 h2 h3 => (hgrow.block k (by omega) (fun e => h3 e.symm)).trans (HSZ.out.block k h1 h2)
            have hze := hgrow.size
            have hobn : (Value.slice xa fs.length xc).ownBlock ≠ some ob := fun e => HA2.out ob e rfl
            have HHD : Hid (wd'.cell? ⟨ob, i * 2 + 1, none⟩ = some (.slice xa fs.length xc)) := (World.cell?_of_block (HKE.out ob hbl (by omega) hobn)).trans HHC.out
            have HRD : Hid (wd'.ownsRow w.heap.size 45 2 (.slice (some ⟨ob, 0, none⟩) L'.length oc) L2.length (flatC shC L2)) := owns_kept HRW.out fun k hk => HKE.out k (owns_lt HRW.out hk).1 (by have := (owns_lt HRW.out hk).2; omega) (by have e := own_at hk; rw [← e]; exact hobn)
            replace HR := hide (HR.out.belowB hbg (by omega))
            replace HT := hide (HT.out.belowB hbg (Nat.le_refl _))
            clear hown hgrow hat hbg HNW HO3
            refine hK.out _ _ (fun _ => HHD.out) (fun hHeld => ?_)
            replace hHeld := hHeld (by decide)
            clear hK KK
            try simp only [Act.put, List.getElem_toArray, List.getElem_cons_succ, List.getElem_cons_zero, List.setIfInBounds_toArray, List.set_cons_zero, List.set_cons_succ]
            refine wpAnyB_take [19, 20] (i := 18) (v := .pointer (some ⟨ob, i * 2, none⟩)) rfl (by kernel_rfl) (by kernel_rfl) (by kernel_rfl) (by kernel_rfl) (fun _ _ _ h => h) (Or.inl ⟨by rfl, fun W hW => by go_simp⟩) hHeld ?_
            try simp only [Act.put, List.getElem_toArray, List.getElem_cons_succ, List.getElem_cons_zero, List.setIfInBounds_toArray, List.set_cons_zero, List.set_cons_succ]
            refine wpAnyB_take [20] (i := 19) (v := .pointer (some ⟨ob, i * 2 + 1, none⟩)) rfl (by kernel_rfl) (by kernel_rfl) (by kernel_rfl) (by kernel_rfl) (fun _ _ _ h => h) (Or.inl ⟨by rfl, fun W hW => by go_simp⟩) hHeld ?_
            try simp only [Act.put, List.getElem_toArray, List.getElem_cons_succ, List.getElem_cons_zero, List.setIfInBounds_toArray, List.set_cons_zero, List.set_cons_succ]
            refine wpAnyB_one (i := 20) (by kernel_rfl) rfl (fun KK hK => ?_)
            have c1 := HHD.out
            have HRD' := HRD.out
            rw [HL2.out] at HRD'
            have cf := HRD'.frozenAt (i * 2 + 1)
            clear HRD'
            have hbl4 : ob < wd'.heap.size := by omega
            go_simp
            refine hK.out _ _ (fun h => absurd (by decide) h) (fun _ => ?_)
            clear hK KK c1 cf hHeld
            try simp only [Act.put, List.getElem_toArray, List.getElem_cons_succ, List.getElem_cons_zero, List.setIfInBounds_toArray, List.set_cons_zero, List.set_cons_succ]
            refine wpAnyB_done (by kernel_rfl) ?_ _
            obtain ⟨we', hwe⟩ : ∃ vv, vv = wd'.setCell ⟨ob, i * 2 + 1, none⟩ (.slice (some ⟨g, 0, none⟩) (fs.length + 1) cap1) := ⟨_, rfl⟩
            rw [← hwe]
            have hzf : we'.heap.size = wd'.heap.size := by rw [hwe]; simp [World.setCell]
            have HKF : Hid (∀ k, k ≠ ob → we'.heap[k]? = wd'.heap[k]?) := fun k hk => by rw [hwe]; exact Below.heap_setCell _ _ _ k hk
            have ROW : Hid (we'.ownsRow w.heap.size 45 2 (.slice (some ⟨ob, 0, none⟩) L'.length oc) L2.length (flatC shC (L2.set i ⟨.slice (some ⟨g, 0, none⟩) (fs.length + 1) cap1, kd, fs ++ [(Value.slice none 0 0, ⟨nmf, 3, 1, 1, [], ⟨#[]⟩, 0, false, false, ⟨#[]⟩, ⟨#[]⟩⟩)]⟩))) := by
              unfold Hid
              have h1 := flatC_fields L2 i hi2 (.slice (some ⟨g, 0, none⟩) (fs.length + 1) cap1) (fs ++ [(Value.slice none 0 0, ⟨nmf, 3, 1, 1, [], ⟨#[]⟩, 0, false, false, ⟨#[]⟩, ⟨#[]⟩⟩)])
              rw [HXE.out] at h1
              rw [← h1, hwe]
              have h2 := HL2.out
              have h3 := HRD.out
              rw [← h2] at h3 ⊢
              exact owns_put h3 (i * 2 + 1) (by omega) _
            have OWN : Hid (we'.ownsRow w.heap.size 56 11 (.slice (some ⟨g, 0, none⟩) (fs.length + 1) cap1) (fs ++ [(Value.slice none 0 0, (⟨nmf, 3, 1, 1, [], ⟨#[]⟩, 0, false, false, ⟨#[]⟩, ⟨#[]⟩⟩ : Fd))]).length (flatC fdC (fs ++ [(Value.slice none 0 0, ⟨nmf, 3, 1, 1, [], ⟨#[]⟩, 0, false, false, ⟨#[]⟩, ⟨#[]⟩⟩)]))) := by
              unfold Hid
              rw [List.length_append, flatC_app]
              have h1 := owns_kept (W' := we') HFN.out fun k hk => HKF.out k (by
                have e := own_at hk
                subst e
                rcases HGN.out with h | h
                · exact fun e => hobn (by rw [← e]; exact h)
                · omega)
              simpa [flatC, fdC] using h1
            have SPN := hide (HTU.out we' (.slice (some ⟨g, 0, none⟩) (fs.length + 1) cap1) (fs ++ [(Value.slice none 0 0, ⟨nmf, 3, 1, 1, [], ⟨#[]⟩, 0, false, false, ⟨#[]⟩, ⟨#[]⟩⟩)]) (by simp; omega) ROW.out OWN.out (fun y hy => by
              rcases List.mem_append.1 hy with hy | hy
              · exact fd_keeps _ wr _ y (HI2'.out y hy) fun k hk => (HKF.out k (by omega)).trans (HKE.out k (by omega) (by omega) (fun e => by have := (owns_lt HO2.out e).2; omega))
              · rw [List.mem_singleton.1 hy]
                exact ⟨⟨HNM.out, of_decide_eq_true rfl, of_decide_eq_true rfl, of_decide_eq_true rfl, ⟨of_decide_eq_true rfl, of_decide_eq_true rfl⟩, ⟨of_decide_eq_true rfl, of_decide_eq_true rfl⟩, of_decide_eq_true rfl, (fun s hs => by cases hs)⟩, Or.inl ⟨_, _, rfl, rfl⟩⟩) (fun k hk => by have e := own_at hk; rw [← e]; exact HGN.out) (fun k h1 h2 h3 h4 => (HKF.out k (fun e => h3 (by rw [e]; rfl))).trans (HKE.out k h1 (by omega) h4)) (by omega))
            have HRN : Hid (Rd we' ρ (q + 1) bs) := by unfold Hid; rw [hwe]; exact HR.out.other (by omega) _
            have HTN : Hid (Tch ρ w we') := by unfold Hid; rw [hwe]; exact HT.out.other (by omega) _
            have hgl : (L2.set i ⟨.slice (some ⟨g, 0, none⟩) (fs.length + 1) cap1, kd, fs ++ [(Value.slice none 0 0, (⟨nmf, 3, 1, 1, [], ⟨#[]⟩, 0, false, false, ⟨#[]⟩, ⟨#[]⟩⟩ : Fd))]⟩).length = L'.length := by rw [List.length_set]; exact HL2.out
            clear hwe
            go_wp2
            go_roundg (gk - 1)
            case rel => exact ⟨q + 1, _, hgl, SPN.out, ⟨by rw [List.length_set]; exact hi2, by simp; omega⟩, HRN.out, by omega, by omega, HTN.out⟩
            case measure => omega
          · have hd9 : decide ((fs.length : Int) < 6 + x9) = false := decide_eq_false hlt9
            have HON := hide (HO.out.tch HSZ.out hl)
            go_wp2
            go_ret
            first
            | exact ⟨_, L2, rfl, HON.out.toG, by omega, ⟨q + 1, by omega, by omega, HR.out⟩, HT.out⟩
            | exact ⟨_, rfl, L2, HON.out.toG, by omega, ⟨q + 1, by omega, by omega, HR.out⟩, HT.out⟩
      · have hcc := HO.out.cells i hi
        have hO2 := HO.out.own _ (List.getElem_mem hi)
        have hN2 := HO.out.n _ (List.getElem_mem hi)
        have hI2 := HO.out.inn _ (List.getElem_mem hi)
        have hA2 := HO.out.ap _ (List.getElem_mem hi)
        have HSP : Hid (∀ (wz W' : World), Tch ρ w6 wz → ∀ (fs : List (Value × Fd)), fs.length ≤ 10 → W'.ownsRow w.heap.size 56 11 L'[i].fv fs.length (flatC fdC fs) → (∀ k, k < wz.heap.size → lo ≤ k → L'[i].fv.ownBlock ≠ some k → W'.heap[k]? = wz.heap[k]?) → wz.heap.size ≤ W'.heap.size → (∀ y ∈ fs, y ∈ L'[i].fs ∨ FdP (fun k => (lo ≤ k ∧ k < w.heap.size) ∨ (wz.heap.size ≤ k ∧ k < W'.heap.size)) W' y) → ∃ L2 : List SX, L2.length = L'.length ∧ ShsG lo (.slice (some ⟨ob, 0, none⟩) L'.length oc) L2 W') := fun wz W' hz fs h1 h2 h3 h4 h5 => ⟨_, List.length_set, (HO.out.tch hz hl).spoil i hi fs h1 h2 h3 h4 h5⟩
        obtain ⟨⟨fv, kd, fs⟩, hx⟩ : ∃ y, L'[i]'hi = y := ⟨_, rfl⟩
        rw [hx] at hcc hO2 hN2 hI2 hA2 HSP
        simp only [] at hcc hO2 hN2 hI2 hA2 HSP
        obtain ⟨-, hc⟩ := hcc
        have HO2 := hide hO2
        have HI2' := hide hI2
        have HA2 := hide hA2
        have HHC := hide hc
        obtain ⟨xa, xc, rfl⟩ := owns_form hO2
        clear hO2 hI2 hA2 hx
        have hn10 : fs.length ≤ 10 := hN2
        have hbl : ob < w6.heap.size := (owns_lt HO.out.row (g := ob) rfl).1
        have h45a : (x6 == 0) = false := by rcases h45 with rfl | rfl <;> rfl
        have h45b : (x6 == 1) = false := by rcases h45 with rfl | rfl <;> rfl
        have h45c : (x6 == 2) = false := by rcases h45 with rfl | rfl <;> rfl
        have h45d : (x6 == 3) = false := by rcases h45 with rfl | rfl <;> rfl
        clear h45
        by_cases hf0 : fs.length = 0
        · have hf0' : (fs.length : Int) = 0 := by omega
          go_wp2
          go_ret
          exact ⟨_, L', rfl, HO.out.toG, by omega, ⟨p + 2, by omega, by omega, HR.out⟩, HT.out⟩
        have hf1 : (0 : Int) < (fs.length : Int) := by omega
        obtain ⟨fg, rfl⟩ : ∃ fg, xa = some ⟨fg, 0, none⟩ := by
          rcases HO2.out.2 with ⟨hv, hn⟩ | ⟨g, cap', cur, hv, _⟩
          · have : fs.length = 0 := hn
            omega
          · cases hv; exact ⟨_, rfl⟩
        go_wp2_with fail
        refine (pick_any ρ (p + 2) bs fs.length w6 HR.out (by omega) (by omega) (by omega)).mono ?_
        rintro e w7 ⟨x, rfl, hx0, hx1, hr, ht⟩
        obtain ⟨m, rfl⟩ := Int.eq_ofNat_of_zero_le hx0
        have hm : m < fs.length := by omega
        have hmi : (m : Int) < (fs.length : Int) := by omega
        have hfg := owns_lt HO2.out (g := fg) rfl
        have hz7 := ht.size
        have HHD : Hid (w7.cell? ⟨ob, i * 2 + 1, none⟩ = some (.slice (some ⟨fg, 0, none⟩) fs.length xc)) := (ht.cell (p := ⟨ob, _, none⟩) hbl (by show ob ≠ ρ; omega)).trans HHC.out
        have HO7 := hide (owns_kept (W' := w7) HO2.out fun k hk => ht.block k (owns_lt HO2.out hk).1 (by have := (owns_lt HO2.out hk).2; omega))
        have HI7 : Hid (∀ y ∈ fs, FdP (fun k => lo ≤ k ∧ k < w.heap.size) w7 y) := fun y hy => fd_keeps _ _ _ _ (HI2'.out y hy) fun k hk => ht.block k (by omega) (by omega)
        have HT7 := hide ht
        replace HR : Hid (Rd w7 ρ (p + 3) bs) := hr
        replace HT := hide (HT.out.trans ht)
        clear hr ht hx0 hx1 hc
        have HFM := hide (HI7.out _ (List.getElem_mem hm))
        obtain ⟨⟨wvm, fm⟩, hfm⟩ : ∃ y, fs[m]'hm = y := ⟨_, rfl⟩
        rw [hfm] at HFM
        obtain ⟨wa, wn, wx, rfl⟩ := HFM.out.2.form
        have HRG : Hid (w7.rangeAt fg (m * 11) (fdL fm (.slice wa wn wx))) := fun j u hu => by
          have hj : j < 11 := by
            rcases Nat.lt_or_ge j 11 with h | h
            · exact h
            · rw [List.getElem?_eq_none (by show 11 ≤ j; exact h)] at hu; cases hu
          have h1 := (owns_cell HO7.out (W' := w7) rfl).2.2 (m * 11 + j) (by omega)
          have h2 := flatC_at fdC 11 fdC_len fs m j hm hj
          rw [hfm] at h2
          exact h1.trans (h2.trans hu)
        clear hfm
        obtain ⟨fnm, fkd, fle, fmo, fws, fto, fro, fmu, ffx, fdf, fwe⟩ := fm
        go_upto_region 14 with fail
        refine wp_region_B (S := fun W => W.cell? ⟨ob, i * 2 + 1, none⟩ = some (.slice (some ⟨fg, 0, none⟩) fs.length xc) ∧ W.rangeAt fg (m * 11) (fdL ⟨fnm, fkd, fle, fmo, fws, fto, fro, fmu, ffx, fdf, fwe⟩ (.slice wa wn wx))) [17] (by kernel_rfl) ⟨HHD.out, HRG.out⟩ (fun hHeld => ?_)
        refine wpAnyB_take [17] (i := 0) (v := (.slice (some ⟨ob, 0, none⟩) L'.length oc)) rfl (by kernel_rfl) (by kernel_rfl) (by kernel_rfl) (by kernel_rfl) (fun _ _ _ h => h) (Or.inl ⟨by rfl, fun W hW => by obtain ⟨hq1, hq2⟩ := hW; go_simp⟩) hHeld ?_
        try simp only [Act.put, List.getElem_toArray, List.getElem_cons_zero, List.setIfInBounds_toArray, List.set_cons_zero, List.set_cons_succ]
        refine wpAnyB_take [17] (i := 1) (v := .int .i64 (i : Int)) rfl (by kernel_rfl) (by kernel_rfl) (by kernel_rfl) (by kernel_rfl) (fun _ _ _ h => h) (Or.inl ⟨by rfl, fun W hW => by obtain ⟨hq1, hq2⟩ := hW; go_simp⟩) hHeld ?_
        try simp only [Act.put, List.getElem_toArray, List.getElem_cons_succ, List.getElem_cons_zero, List.setIfInBounds_toArray, List.set_cons_zero, List.set_cons_succ]
        refine wpAnyB_take [17] (i := 2) (v := .pointer (some ⟨ob, i * 2, none⟩)) rfl (by kernel_rfl) (by kernel_rfl) (by kernel_rfl) (by kernel_rfl) (fun _ _ _ h => h) (Or.inl ⟨by rfl, fun W hW => by obtain ⟨hq1, hq2⟩ := hW; go_simp⟩) hHeld ?_
        try simp only [Act.put, List.getElem_toArray, List.getElem_cons_succ, List.getElem_cons_zero, List.setIfInBounds_toArray, List.set_cons_zero, List.set_cons_succ]
        refine wpAnyB_take [17] (i := 3) (v := .pointer (some ⟨ob, i * 2 + 1, none⟩)) rfl (by kernel_rfl) (by kernel_rfl) (by kernel_rfl) (by kernel_rfl) (fun _ _ _ h => h) (Or.inl ⟨by rfl, fun W hW => by obtain ⟨hq1, hq2⟩ := hW; go_simp⟩) hHeld ?_
        try simp only [Act.put, List.getElem_toArray, List.getElem_cons_succ, List.getElem_cons_zero, List.setIfInBounds_toArray, List.set_cons_zero, List.set_cons_succ]
        refine wpAnyB_take [17] (i := 4) (v := .slice (some ⟨fg, 0, none⟩) fs.length xc) rfl (by kernel_rfl) (by kernel_rfl) (by kernel_rfl) (by kernel_rfl) (fun _ _ _ h => h) (Or.inl ⟨by rfl, fun W hW => by obtain ⟨hq1, hq2⟩ := hW; go_simp⟩) hHeld ?_
        try simp only [Act.put, List.getElem_toArray, List.getElem_cons_succ, List.getElem_cons_zero, List.setIfInBounds_toArray, List.set_cons_zero, List.set_cons_succ]
        refine wpAnyB_take [17] (i := 5) (v := .int .i64 (m : Int)) rfl (by kernel_rfl) (by kernel_rfl) (by kernel_rfl) (by kernel_rfl) (fun _ _ _ h => h) (Or.inl ⟨by rfl, fun W hW => by obtain ⟨hq1, hq2⟩ := hW; go_simp⟩) hHeld ?_
        try simp only [Act.put, List.getElem_toArray, List.getElem_cons_succ, List.getElem_cons_zero, List.setIfInBounds_toArray, List.set_cons_zero, List.set_cons_succ]
        refine wpAnyB_take [17] (i := 6) (v := .pointer (some ⟨ρ, 0, none⟩)) rfl (by kernel_rfl) (by kernel_rfl) (by kernel_rfl) (by kernel_rfl) (fun _ _ _ h => h) (Or.inl ⟨by rfl, fun W hW => by obtain ⟨hq1, hq2⟩ := hW; go_simp⟩) hHeld ?_
        try simp only [Act.put, List.getElem_toArray, List.getElem_cons_succ, List.getElem_cons_zero, List.setIfInBounds_toArray, List.set_cons_zero, List.set_cons_succ]
        refine wpAnyB_take [17] (i := 7) (v := (.slice (some ⟨ob, 0, none⟩) L'.length oc)) rfl (by kernel_rfl) (by kernel_rfl) (by kernel_rfl) (by kernel_rfl) (fun _ _ _ h => h) (Or.inl ⟨by rfl, fun W hW => by obtain ⟨hq1, hq2⟩ := hW; go_simp⟩) hHeld ?_
        try simp only [Act.put, List.getElem_toArray, List.getElem_cons_succ, List.getElem_cons_zero, List.setIfInBounds_toArray, List.set_cons_zero, List.set_cons_succ]
        refine wpAnyB_take [17] (i := 8) (v := .int .i64 (i : Int)) rfl (by kernel_rfl) (by kernel_rfl) (by kernel_rfl) (by kernel_rfl) (fun _ _ _ h => h) (Or.inl ⟨by rfl, fun W hW => by obtain ⟨hq1, hq2⟩ := hW; go_simp⟩) hHeld ?_
        try simp only [Act.put, List.getElem_toArray, List.getElem_cons_succ, List.getElem_cons_zero, List.setIfInBounds_toArray, List.set_cons_zero, List.set_cons_succ]
        refine wpAnyB_take [17] (i := 9) (v := .pointer (some ⟨ob, i * 2, none⟩)) rfl (by kernel_rfl) (by kernel_rfl) (by kernel_rfl) (by kernel_rfl) (fun _ _ _ h => h) (Or.inl ⟨by rfl, fun W hW => by obtain ⟨hq1, hq2⟩ := hW; go_simp⟩) hHeld ?_
        try simp only [Act.put, List.getElem_toArray, List.getElem_cons_succ, List.getElem_cons_zero, List.setIfInBounds_toArray, List.set_cons_zero, List.set_cons_succ]
        refine wpAnyB_take [17] (i := 10) (v := .pointer (some ⟨ob, i * 2 + 1, none⟩)) rfl (by kernel_rfl) (by kernel_rfl) (by kernel_rfl) (by kernel_rfl) (fun _ _ _ h => h) (Or.inl ⟨by rfl, fun W hW => by obtain ⟨hq1, hq2⟩ := hW; go_simp⟩) hHeld ?_
        try simp only [Act.put, List.getElem_toArray, List.getElem_cons_succ, List.getElem_cons_zero, List.setIfInBounds_toArray, List.set_cons_zero, List.set_cons_succ]
        refine wpAnyB_take [17] (i := 11) (v := .slice (some ⟨fg, 0, none⟩) fs.length xc) rfl (by kernel_rfl) (by kernel_rfl) (by kernel_rfl) (by kernel_rfl) (fun _ _ _ h => h) (Or.inl ⟨by rfl, fun W hW => by obtain ⟨hq1, hq2⟩ := hW; go_simp⟩) hHeld ?_
        try simp only [Act.put, List.getElem_toArray, List.getElem_cons_succ, List.getElem_cons_zero, List.setIfInBounds_toArray, List.set_cons_zero, List.set_cons_succ]
        refine wpAnyB_take [17] (i := 12) (v := .int .i64 (m : Int)) rfl (by kernel_rfl) (by kernel_rfl) (by kernel_rfl) (by kernel_rfl) (fun _ _ _ h => h) (Or.inl ⟨by rfl, fun W hW => by obtain ⟨hq1, hq2⟩ := hW; go_simp⟩) hHeld ?_
        try simp only [Act.put, List.getElem_toArray, List.getElem_cons_succ, List.getElem_cons_zero, List.setIfInBounds_toArray, List.set_cons_zero, List.set_cons_succ]
        refine wpAnyB_take [17] (i := 13) (v := .pointer (some ⟨fg, m * 11, none⟩)) rfl (by kernel_rfl) (by kernel_rfl) (by kernel_rfl) (by kernel_rfl) (fun _ _ _ h => h) (Or.inl ⟨by rfl, fun W hW => by obtain ⟨hq1, hq2⟩ := hW; go_simp⟩) hHeld ?_
        try simp only [Act.put, List.getElem_toArray, List.getElem_cons_succ, List.getElem_cons_zero, List.setIfInBounds_toArray, List.set_cons_zero, List.set_cons_succ]
        refine wpAnyB_take [17] (i := 14) rfl (by kernel_rfl) (by kernel_rfl) (by kernel_rfl) (by kernel_rfl) (fun _ _ _ h => h) (yieldsIf_load_mid (by rfl) 56 (.tmp 72) rfl fg (m * 11) rfl (fdL ⟨fnm, fkd, fle, fmo, fws, fto, fro, fmu, ffx, fdf, fwe⟩ (.slice wa wn wx)) _ (fun _ h => h.2) Tryz.underlying56 rfl Fd_sizeI) hHeld ?_
        try simp only [Act.put, List.getElem_toArray, List.getElem_cons_succ, List.getElem_cons_zero, List.setIfInBounds_toArray, List.set_cons_zero, List.set_cons_succ]
        refine wpAnyB_one (i := 15) (by kernel_rfl) rfl (fun KK hK => ?_)
        go_simp
        have hbd : Below w7.heap.size w7 w7.drew := (Below.refl _ _).drew
        refine (l1SpoilField_any ρ (p + 3) bs fnm fto fdf fwe fkd fle fmo fro fmu ffx wa wn wx fws (fun k => lo ≤ k ∧ k < w.heap.size) w7.drew (HR.out.below hbd) (by omega) HFM.out.1 (HFM.out.2.keep fun k hk => hbd.block k (by omega)) (fun k hk => ⟨by show k < w7.heap.size; omega, by omega⟩)).mono ?_
        rintro e wz ⟨fn, wvn, rfl, hfp, ⟨qz, hqz1, hqz2, hr⟩, ht⟩
        have HFP := hide hfp
        have hdz : w7.drew.heap.size = w7.heap.size := rfl
        replace ht : Tch ρ w7 wz := (Tch.below hbd).trans ht
        obtain ⟨na, nn, nx, rfl⟩ := hfp.2.form
        have HTZ := hide ht
        have hzz := ht.size
        replace HR := hide hr
        replace HT := hide (HT.out.trans ht)
        have HHZ : Hid (wz.cell? ⟨ob, i * 2 + 1, none⟩ = some (.slice (some ⟨fg, 0, none⟩) fs.length xc)) := (ht.cell (p := ⟨ob, _, none⟩) (by show ob < _; omega) (by show ob ≠ ρ; omega)).trans HHD.out
        have HRZ : Hid (wz.rangeAt fg (m * 11) (fdL ⟨fnm, fkd, fle, fmo, fws, fto, fro, fmu, ffx, fdf, fwe⟩ (.slice wa wn wx))) := fun j u hu => (ht.cell (p := ⟨fg, _, none⟩) (by show fg < _; omega) (by show fg ≠ ρ; omega)).trans (HRG.out j u hu)
        have HOZ := hide (owns_kept (W' := wz) HO7.out fun k hk => ht.block k (owns_lt HO7.out hk).1 (by have := (owns_lt HO7.out hk).2; omega))
        clear hr ht hfp hbd
        try go_wp2_with fail
        refine hK.out _ _ (fun _ => ⟨HHZ.out, HRZ.out⟩) (fun hHeld => ?_)
        replace hHeld := hHeld (by decide)
        clear hK KK
        try simp only [Act.put, List.getElem_toArray, List.getElem_cons_succ, List.getElem_cons_zero, List.setIfInBounds_toArray, List.set_cons_zero, List.set_cons_succ]
        refine wpAnyB_take [17] (i := 16) (v := .pointer (some ⟨fg, m * 11, none⟩)) rfl (by kernel_rfl) (by kernel_rfl) (by kernel_rfl) (by kernel_rfl) (fun _ _ _ h => h) (Or.inl ⟨by rfl, fun W hW => by obtain ⟨hq1, hq2⟩ := hW; go_simp⟩) hHeld ?_
        try simp only [Act.put, List.getElem_toArray, List.getElem_cons_succ, List.getElem_cons_zero, List.setIfInBounds_toArray, List.set_cons_zero, List.set_cons_succ]
        refine wpAnyB_one (i := 17) (by kernel_rfl) rfl (fun KK hK => ?_)
        rw [if_pos (by rfl)]
        have HTH : Hid (wz.there fg (m * 11) 11) := fun j hj => by
          have h1 := (owns_cell HOZ.out (W' := wz) rfl).2.2 (m * 11 + j) (by omega)
          have h2 := flatC_len fdC 11 fdC_len fs
          exact ⟨by rw [h1, List.getElem?_eq_getElem (by omega)]; rfl, HOZ.out.frozenAt (m * 11 + j)⟩
        refine wp_store_mid 56 (.tmp 75) (.tmp 74) rfl fg (m * 11) (fdL fn (.slice na nn nx)).toArray rfl rfl HTH.out (by rw [List.size_toArray]; exact Fd_sizeI) (fdL_one fn _ _ _) ?_
        refine hK.out _ _ (fun h => absurd (by decide) h) (fun _ => ?_)
        clear hK KK hHeld
        try simp only [Act.put, List.getElem_toArray, List.getElem_cons_succ, List.getElem_cons_zero]
        refine wpAnyB_done (by kernel_rfl) ?_ _
        obtain ⟨wy, hwy⟩ : ∃ vv, vv = wz.setCells fg (m * 11) (fdL fn (.slice na nn nx)).toArray.toList := ⟨_, rfl⟩
        rw [← hwy]
        have hzy : wy.heap.size = wz.heap.size := by rw [hwy, size_sets]
        have HKY : Hid (∀ k, k ≠ fg → wy.heap[k]? = wz.heap[k]?) := fun k hk => by rw [hwy]; exact sets_other fg k hk _ _ _
        obtain ⟨cs', hcs1, hcs2, hcs3⟩ := owns_puts (fdL fn (.slice na nn nx)) (m * 11) HOZ.out (by show m * 11 + 11 ≤ _; omega)
        have hcs := flatF_set fs m hm (.slice na nn nx, fn) cs' hcs2 hcs3
        subst hcs
        have HOY : Hid (wy.ownsRow w.heap.size 56 11 (.slice (some ⟨fg, 0, none⟩) fs.length xc) (fs.set m (.slice na nn nx, fn)).length (flatC fdC (fs.set m (.slice na nn nx, fn)))) := by unfold Hid; rw [hwy, List.length_set]; exact hcs1
        have HNE : Hid (∀ k, (Value.slice (some ⟨fg, 0, none⟩) fs.length xc).ownBlock ≠ some k → k ≠ fg) := fun k hk e => hk (by rw [e]; rfl)
        obtain ⟨L2, hL2, hSG2⟩ := HSP.out w7 wy HT7.out (fs.set m (.slice na nn nx, fn)) (by rw [List.length_set]; exact hn10) HOY.out (fun k h1 h2 h3 => (HKY.out k (HNE.out k h3)).trans (HTZ.out.block k h1 (by omega))) (by omega) (fun y hy => by
          rcases List.mem_or_eq_of_mem_set hy with hy | rfl
          · exact Or.inl hy
          · have h1 := fd_keeps _ _ wy _ HFP.out fun k hk => HKY.out k (by
              rcases hk with hk | hk
              · omega
              · omega)
            exact Or.inr ⟨h1.1, h1.2.mono fun k hk => by
              rcases hk with hk | hk
              · exact Or.inl hk
              · exact Or.inr ⟨hk.1, by omega⟩⟩)
        have HSG2 := hide hSG2
        have HRY : Hid (Rd wy ρ qz bs) := by unfold Hid; rw [hwy]; exact HR.out.others (by omega) _ _
        have HTY : Hid (Tch ρ w wy) := by unfold Hid; rw [hwy]; exact HT.out.others (by omega) _ _
        clear hcs1 hcs2 hcs3 hSG2 hwy
        go_wp2
        go_ret
        first
        | exact ⟨_, L2, rfl, HSG2.out, by omega, ⟨qz, by omega, by omega, HRY.out⟩, HTY.out⟩
        | exact ⟨_, rfl, L2, HSG2.out, by omega, ⟨qz, by omega, by omega, HRY.out⟩, HTY.out⟩
end Go.Proofs.YtjkkbkdpoebfaaaGreat
