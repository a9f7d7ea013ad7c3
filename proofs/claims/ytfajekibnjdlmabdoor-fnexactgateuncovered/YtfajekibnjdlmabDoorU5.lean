import Derived.Test.YtfajekibnjdlmabDoorU4
namespace Go.Proofs.YtfajekibnjdlmabDoor
open Go.RowKit Go.Deep

theorem ne_step {kv nv : Value} {g H H' : Nat} (hne : kv.ownBlock ≠ nv.ownBlock) (hn : ∀ g, nv.ownBlock = some g → g < H') (hat : kv.ownBlock = some g ∨ g = H) (hH : H' ≤ H) : (some g : Option Nat) ≠ nv.ownBlock := by
  rcases hat with h | h
  · rw [← h]; exact hne
  · intro e
    have := hn g e.symm
    omega
theorem drew_on {X Y : World} (h : Below X.drew.heap.size X.drew Y) : Below X.heap.size X Y := ((Below.refl X.heap.size X).drew).trans (h.mono (Nat.le_refl _))
theorem al_drew_on {X Y : World} {o : Obj} (h : Below (X.alloc o).drew.heap.size (X.alloc o).drew Y) : Below X.heap.size X Y := bt (one_al X o) (drew_on h)
theorem al_box_on {X Y : World} {cs : Array Value} {t : TypeId} (h : Below (X.alloc (.cells cs t)).drew.heap.size (X.alloc (.cells cs t)).drew Y) : Box Y X.heap.size cs := (Box.new X cs t _ rfl).on (drew_on h)
theorem Held1.ald {W0 X : World} {b1 : Nat} {cs1 : Array Value} (h1 : Box W0 b1 cs1) (hd : Hid (Below W0.heap.size W0 X)) (o : Obj) : Held1 W0 b1 cs1 (X.alloc o) := ⟨((h1.on hd.out).on (one_al _ _)).cell, bt hd.out (one_al _ _), h1.lt⟩
theorem strs_set {w : World} {a : Option Addr} {n cap : Nat} {L : List ByteArray} (h : StrsAt w (.slice a n cap) L) {p : Addr} (hp : ∀ q, a = some q → q.block < p.block) (u : Value) : StrsAt (w.setCell p u) (.slice a n cap) L := by
  rcases h with h | ⟨b, off, cap', h1, h2, h3, h4, h5, h6⟩
  · exact Or.inl h
  · have hb : b < p.block := by
      injection h1 with e1
      exact hp _ e1
    exact Or.inr ⟨b, off, cap', h1, h2, h3, by simpa [World.setCell] using h4, fun i hi => by rw [cell_setCell_ne _ _ _ _ (by show b ≠ p.block; omega)]; exact h5 i hi, h6⟩
theorem hasB_swap (A B : List ByteArray) : hasB (A ++ B) = hasB (B ++ A) := by
  funext s
  unfold hasB
  rw [List.any_append, List.any_append, Bool.or_comm]

set_option maxRecDepth 20000 in
set_option maxHeartbeats 16000000 in
theorem specUncovered_any (lo lr ls : Nat) (tv sv vv : Value) (Ts : List Tm) (Rs : List Ru) (r : Ru) (w : World) (hT : TmsAt lo w tv Ts) (hR : RusAt lr w sv Rs) (hv : IntsIn ls w vv r.vb) (hz : RuSize r) (hm : Ts.length ≤ 1048576) (hn : Rs.length ≤ 1048576) :
    Calls Tryd.prog 7 #[tv, sv, .agg #[vv, .string r.kd, .string r.tm, .string r.pf]] w fun e w' => UncR Ts Rs r e ∧ Below w.heap.size w w' := by
  obtain ⟨i0, hi, hz0, hz1, hz2⟩ := info_parts Tryd.info9
  have HI := hide (And.intro hi (And.intro hz0 (And.intro hz1 hz2)))
  clear hi hz0 hz1 hz2
  have HT := hide hT
  have HR := hide hR
  have HV := hide hv
  have HZ := hide hz
  obtain ⟨ta, tcap, rfl⟩ := hT.form
  obtain ⟨sa, scap, rfl⟩ := hR.form
  obtain ⟨a, cap, rfl⟩ := hv.form
  clear hT hR hv hz
  go_enter Tryd.func7, Tryd.ntmps7
  go_wp2_with fail
  generalize hWa : w.alloc _ = Wa
  have hza : Wa.heap.size = w.heap.size + 1 := by rw [← hWa]; simp
  have HBa : Hid (Below w.heap.size w Wa) := by rw [← hWa]; exact one_al _ _
  have FA : Hid (Box Wa w.heap.size #[.slice a r.vb.length cap, .string r.kd, .string r.tm, .string r.pf]) := by rw [← hWa]; exact Box.new _ _ _ _ rfl
  clear hWa
  generalize hWb : Wa.alloc _ = Wb
  have hbb : Below Wa.heap.size Wa Wb := by rw [← hWb]; exact one_al _ _
  have HBb : Hid (Below w.heap.size w Wb) := bt HBa.out hbb
  replace FA := hide (FA.out.on hbb)
  have FR : Hid (Box Wb (w.heap.size + 1) #[.int .i64 0, .string ⟨#[]⟩, .string ⟨#[]⟩, .string ⟨#[]⟩]) := by rw [← hWb]; exact Box.new _ _ _ _ hza
  clear hWb hbb HBa hza
  refine (specAllOk_any lo lr ls _ _ _ Ts Rs r _ (HT.out.below HBb.out) (HR.out.below HBb.out) (HV.out.below HBb.out) HZ.out).mono ?_
  rintro e w1 ⟨rfl, hb1⟩
  have HB1 : Hid (Below w.heap.size w w1) := bt HBb.out hb1
  replace FA := hide (FA.out.on hb1)
  replace FR := hide (FR.out.on hb1)
  clear hb1 HBb
  have HST : ∀ (W : World) (u0 u1 u2 u3 : Value), Hid (Below w.heap.size w W) → Hid (Below w.heap.size w ((((W.setCell ⟨w.heap.size + 1, 0, none⟩ u0).setCell ⟨w.heap.size + 1, 1, none⟩ u1).setCell ⟨w.heap.size + 1, 2, none⟩ u2).setCell ⟨w.heap.size + 1, 3, none⟩ u3)) := fun W u0 u1 u2 u3 h => by
    have q : ∀ (i : Nat), w.heap.size ≤ (⟨w.heap.size + 1, i, none⟩ : Addr).block := fun i => Nat.le_succ _
    exact (((h.out.setCell (q 0) _).setCell (q 1) _).setCell (q 2) _).setCell (q 3) _
  cases q1 : allokB Ts Rs r with
  | false =>
    have HU : Hid (¬ (allokB Ts Rs r = true ∧ (num (missP Ts Rs r) == 0) = false)) := fun h => by rw [q1] at h; cases h.1
    have rf := FR.out.free
    have rl := FR.out.lt
    have r0 : w1.cell? ⟨w.heap.size + 1, 0, none⟩ = some (.int .i64 0) := FR.out.cell 0
    have r1 : w1.cell? ⟨w.heap.size + 1, 1, none⟩ = some (.string ⟨#[]⟩) := FR.out.cell 1
    have r2 : w1.cell? ⟨w.heap.size + 1, 2, none⟩ = some (.string ⟨#[]⟩) := FR.out.cell 2
    have r3 : w1.cell? ⟨w.heap.size + 1, 3, none⟩ = some (.string ⟨#[]⟩) := FR.out.cell 3
    go_wp2
    refine bodyPost_ret (v := .tuple #[.agg #[.int .i64 0, .string ⟨#[]⟩, .string ⟨#[]⟩, .string ⟨#[]⟩], .bool false]) (by simp [results, Tryd.results7, go_sem, r0, r1, r2, r3]) rfl ⟨Or.inl ⟨HU.out, rfl⟩, ?_⟩
    exact (HST _ _ _ _ _ HB1).out
  | true =>
    have HTO : Hid (teamsB Ts = true ∧ ruleB r = true) := by
      unfold allokB at q1
      simp only [Bool.and_eq_true] at q1
      exact q1.1
    have HLZ : Hid ((lackV Ts Rs r == 0) = (num (missP Ts Rs r) == 0)) := lack_zero HTO.out.1 HTO.out.2
    have g0 := FA.out.cell
    have gl := FA.out.lt
    go_wp2_with fail
    clear g0 gl
    refine (l4Lacks_any lo lr ls _ _ _ Ts Rs r _ (HT.out.below HB1.out) (HR.out.below HB1.out) (HV.out.below HB1.out)).mono ?_
    rintro e w2 ⟨rfl, hb2⟩
    have HB2 : Hid (Below w.heap.size w w2) := bt HB1.out hb2
    replace FA := hide (FA.out.on hb2)
    replace FR := hide (FR.out.on hb2)
    clear hb2 HB1
    cases q2 : (num (missP Ts Rs r) == 0) with
    | true =>
      have HU : Hid (¬ (allokB Ts Rs r = true ∧ (num (missP Ts Rs r) == 0) = false)) := fun h => by rw [q2] at h; cases h.2
      have rf := FR.out.free
      have rl := FR.out.lt
      have r0 : w2.cell? ⟨w.heap.size + 1, 0, none⟩ = some (.int .i64 0) := FR.out.cell 0
      have r1 : w2.cell? ⟨w.heap.size + 1, 1, none⟩ = some (.string ⟨#[]⟩) := FR.out.cell 1
      have r2 : w2.cell? ⟨w.heap.size + 1, 2, none⟩ = some (.string ⟨#[]⟩) := FR.out.cell 2
      have r3 : w2.cell? ⟨w.heap.size + 1, 3, none⟩ = some (.string ⟨#[]⟩) := FR.out.cell 3
      have e0 : lackV Ts Rs r = 0 := by have := HLZ.out; rw [q2] at this; simpa using this
      rw [e0]
      go_wp2
      refine bodyPost_ret (v := .tuple #[.agg #[.int .i64 0, .string ⟨#[]⟩, .string ⟨#[]⟩, .string ⟨#[]⟩], .bool false]) (by simp [results, Tryd.results7, go_sem, r0, r1, r2, r3]) rfl ⟨Or.inl ⟨HU.out, rfl⟩, ?_⟩
      exact (HST _ _ _ _ _ HB2).out
    | false =>
      have ne0 : ¬ lackV Ts Rs r = 0 := by have := HLZ.out; rw [q2] at this; simpa using this
      have HLL : Hid (lackV Ts Rs r = leastP (missP Ts Rs r)) := lack_least HTO.out.1 HTO.out.2 q2
      have HLK := fun (W : World) (h : Hid (Below w.heap.size w W)) => hide (l4Lacks_any lo lr ls _ _ _ Ts Rs r W (HT.out.below h.out) (HR.out.below h.out) (HV.out.below h.out))
      have HQ1 := hide q1
      have HQ2 := hide q2
      generalize hlv : lackV Ts Rs r = lv at HLL HLK ne0 ⊢
      have HLV : Hid (leastP (missP Ts Rs r) = lv) := HLL.out.symm
      clear q1 q2 hlv HLZ HLL HTO
      have hl0 : (lv == 0) = false := by simpa using ne0
      go_wp2
      try simp only [hl0]
      go_loopw [8, 9, 10] (fun kv nv i wr => ∃ k : Nat, i = .int .i64 k ∧ k ≤ Rs.length ∧ Below w2.heap.size w2 wr ∧ OwnS w2.heap.size wr kv ((Rs.take k).map Ru.kd) ∧ OwnS w2.heap.size wr nv ((Rs.take k).map Ru.tm) ∧ kv.ownBlock ≠ nv.ownBlock) (fun _ _ i _ => Rs.length - (intOf i).toNat)
      case atStart => exact ⟨0, rfl, by omega, (one_al _ _).alloc (by simp) _, (OwnS.made w2 _ rfl (Nat.le_refl _)).below (one_al _ _), OwnS.made _ _ (by simp) (by omega), by simp [Value.ownBlock]⟩
      case round =>
        obtain ⟨k, rfl, hk, hb, hok, hon, hne⟩ := hrel
        have HB := hide hb
        have HK := hide hok
        have HN := hide hon
        have HNE := hide hne
        obtain ⟨ka, kcap, rfl⟩ := hok.form
        obtain ⟨na, ncap, rfl⟩ := hon.form
        clear hb hok hon hne
        by_cases hlt : k < Rs.length
        · obtain ⟨rb, ro, hre, hrb, hrc⟩ := HR.out.full' (by omega)
          subst hre
          obtain ⟨hsz, qv, hcell, hqv⟩ := hrc k hlt
          have HSZ := hide hsz
          obtain ⟨c0, c1, c2, c3⟩ := hcell.below (bt HB2.out HB.out) hrb
          have HCW := hide hcell.c2
          have HLk : Hid (((Rs.take k).map Ru.kd).length = k ∧ ((Rs.take k).map Ru.tm).length = k) := by unfold Hid; rw [List.length_map, List.length_map, List.length_take]; omega
          have HNX : Hid ((Rs.take (k + 1)).map Ru.kd = (Rs.take k).map Ru.kd ++ [Rs[k].kd]) := map_take hlt
          have HNY : Hid ((Rs.take (k + 1)).map Ru.tm = (Rs.take k).map Ru.tm ++ [Rs[k].tm]) := map_take hlt
          have hrbw : rb < wr.heap.size := Nat.lt_of_lt_of_le hrb (bt HB2.out HB.out).size
          clear hcell hqv hrc hsz
          generalize hLK : (Rs.take k).map Ru.kd = LK at *
          generalize hLN : (Rs.take k).map Ru.tm = LN at *
          clear hLK hLN
          go_wp2_with (at_builtin; refine wpList_append_lies _ rfl (.tmp 34) (.tmp 40) 51 rfl w2.heap.size 9 i0 (.string ⟨#[]⟩) 1 16 Tryd.underlying51 HI.out.1 HI.out.2.1 HI.out.2.2.1 HI.out.2.2.2 rfl (by decide) _ _ _ rfl (HK.out.below (one_al _ _)).row ⟨wr.heap.size, 0, none⟩ 1 1 [.string Rs[k].kd] rfl rfl (cell_new1 _ _ _ _ rfl) (one_oneCell _) (by decide) (by have := HLk.out; unfold maxLen; omega) (by have := HLk.out; omega) (by have := HB.out.size; simp; omega) _ rfl ?_; intro g cap1 w4 hown4 hgrow4 hat4 hlt4; refine Hid.out ?_)
          have hw4 := (HK.out.below (one_al wr _)).grown hgrow4 (by have := HB.out.size; simp; omega)
          have HB4 : Hid (Below w2.heap.size w2 w4) := (HB.out.trans ((one_al wr _).mono HB.out.size)).trans hw4
          have HN4 := hide ((HN.out.below (one_al wr _)).kept hgrow4 (Or.inl fun e => HNE.out e.symm))
          have HK4 := hide (HK.out.snoc hown4 HSZ.out.s1)
          have HNE4 : Hid ((some g : Option Nat) ≠ (Value.slice na LN.length ncap).ownBlock) := ne_step HNE.out (fun g h => HN.out.blk h) hat4 (by simp)
          have c2' : w4.cell? ⟨rb, ro + k * 4 + 2, none⟩ = some (.string Rs[k].tm) := by
            rw [(bt HB2.out HB4.out).cell (p := ⟨rb, _, none⟩) hrb]; exact HCW.out
          clear c0 c1 c2 c3 hown4 hw4 hat4
          refine hide ?_
          go_wp2_with (at_builtin; refine wpList_append_lies _ rfl (.tmp 42) (.tmp 48) 51 rfl w2.heap.size 9 i0 (.string ⟨#[]⟩) 1 16 Tryd.underlying51 HI.out.1 HI.out.2.1 HI.out.2.2.1 HI.out.2.2.2 rfl (by decide) _ _ _ rfl (HN4.out.below (one_al _ _)).row ⟨w4.heap.size, 0, none⟩ 1 1 [.string Rs[k].tm] rfl rfl (cell_new1 _ _ _ _ rfl) (one_oneCell _) (by decide) (by have := HLk.out; unfold maxLen; omega) (by have := HLk.out; omega) (by have := HB4.out.size; simp; omega) _ rfl ?_; intro g2 cap2 w5 hown5 hgrow5 hat5 hlt5; refine Hid.out ?_)
          have hw5 := (HN4.out.below (one_al w4 _)).grown hgrow5 (by have := HB4.out.size; simp; omega)
          have HB5 : Hid (Below w2.heap.size w2 w5) := (HB4.out.trans ((one_al w4 _).mono HB4.out.size)).trans hw5
          have HK5 := hide ((HK4.out.below (one_al w4 _)).kept hgrow5 (Or.inl HNE4.out))
          have HN5 := hide (HN4.out.snoc hown5 HSZ.out.s2)
          have HNE5 : Hid ((some g : Option Nat) ≠ some g2) := fun e => by
            have e1 : g = g2 := by injection e
            subst e1
            rcases hat5 with h | h
            · exact HNE4.out h.symm
            · have := HK4.out.blk (g := g) rfl
              simp at h
              omega
          clear hown5 hw5 hat5 c2'
          refine hide ?_
          go_wp2
          go_roundw
          case rel => first | exact ⟨k + 1, by go_num, by omega, HB5.out, by rw [HNX.out]; exact HK5.out, by rw [HNY.out]; exact HN5.out, HNE5.out⟩ | ((repeat apply Exists.intro); exact ⟨⟨k + 1, by go_num, by omega, HB5.out, by rw [HNX.out]; exact HK5.out, by rw [HNY.out]; exact HN5.out, HNE5.out⟩, rfl⟩)
          case measure => simp [intOf]; omega
        · have HEK : Hid ((Rs.take k).map Ru.kd = kindsL Rs) := by unfold Hid kindsL; rw [List.take_of_length_le (by omega)]
          have HEN : Hid ((Rs.take k).map Ru.tm = Rs.map Ru.tm ++ (Ts.take 0).map Tm.nm) := by unfold Hid; rw [List.take_of_length_le (by omega)]; simp
          rw [HEK.out] at HK HNE ⊢
          rw [HEN.out] at HN HNE ⊢
          generalize hL0 : Rs.map Ru.tm ++ (Ts.take 0).map Tm.nm = L0 at HN HNE ⊢
          have HL0 := hide hL0
          clear hL0
          go_wp2
          go_loopw [9, 11] (fun nv i wx => ∃ q : Nat, i = .int .i64 q ∧ q ≤ Ts.length ∧ Below w2.heap.size w2 wx ∧ OwnS w2.heap.size wx nv (Rs.map Ru.tm ++ (Ts.take q).map Tm.nm) ∧ OwnS w2.heap.size wx (.slice ka (kindsL Rs).length kcap) (kindsL Rs) ∧ (Value.slice ka (kindsL Rs).length kcap).ownBlock ≠ nv.ownBlock) (fun _ i _ => Ts.length - (intOf i).toNat)
          case atStart => exact ⟨0, rfl, by omega, HB.out, by rw [HL0.out]; exact HN.out, HK.out, HNE.out⟩
          case round =>
            obtain ⟨q, rfl, hq, hbq, hownq, hkq, hneq⟩ := hrel
            clear HB HK HN HNE HL0
            obtain ⟨wx, rfl⟩ : ∃ wx : World, wx = wr := ⟨_, rfl⟩
            have HB := hide hbq
            have HN := hide hownq
            have HK := hide hkq
            have HNE := hide hneq
            obtain ⟨na2, ncap2, rfl⟩ := hownq.form
            clear hbq hownq hkq hneq
            by_cases hltq : q < Ts.length
            · obtain ⟨tb, toff, hte, htb, htc⟩ := HT.out.full' (by omega)
              subst hte
              obtain ⟨hsz, hcell⟩ := htc q hltq
              have HSZ := hide hsz
              obtain ⟨c0, c1⟩ := hcell.below (bt HB2.out HB.out) htb
              have HLk : Hid ((Rs.map Ru.tm ++ (Ts.take q).map Tm.nm).length = Rs.length + q) := by unfold Hid; rw [List.length_append, List.length_map, List.length_map, List.length_take]; omega
              have HNX : Hid (Rs.map Ru.tm ++ (Ts.take (q + 1)).map Tm.nm = (Rs.map Ru.tm ++ (Ts.take q).map Tm.nm) ++ [Ts[q].nm]) := by unfold Hid; rw [map_take hltq, List.append_assoc]
              clear hcell htc hsz
              generalize hLL : Rs.map Ru.tm ++ (Ts.take q).map Tm.nm = LL at *
              clear hLL
              go_wp2_with (at_builtin; refine wpList_append_lies _ rfl (.tmp 56) (.tmp 62) 51 rfl w2.heap.size 9 i0 (.string ⟨#[]⟩) 1 16 Tryd.underlying51 HI.out.1 HI.out.2.1 HI.out.2.2.1 HI.out.2.2.2 rfl (by decide) _ _ _ rfl (HN.out.below (one_al _ _)).row ⟨wx.heap.size, 0, none⟩ 1 1 [.string Ts[q].nm] rfl rfl (cell_new1 _ _ _ _ rfl) (one_oneCell _) (by decide) (by have := HLk.out; unfold maxLen; omega) (by have := HLk.out; omega) (by have := HB.out.size; simp; omega) _ rfl ?_; intro g cap1 w4 hown4 hgrow4 hat4 hlt4; refine Hid.out ?_)
              have hw4 := (HN.out.below (one_al wx _)).grown hgrow4 (by have := HB.out.size; simp; omega)
              have HB4 : Hid (Below w2.heap.size w2 w4) := (HB.out.trans ((one_al wx _).mono HB.out.size)).trans hw4
              have HK4 := hide ((HK.out.below (one_al wx _)).kept hgrow4 (Or.inl HNE.out))
              have HN4 := hide (HN.out.snoc hown4 HSZ.out.s0)
              have HNE4 : Hid ((Value.slice ka (kindsL Rs).length kcap).ownBlock ≠ some g) := fun e => by
                rcases hat4 with h | h
                · exact HNE.out (e.trans h.symm)
                · have := HK.out.blk e
                  simp at h
                  omega
              clear hown4 hw4 hat4 c0 c1
              refine hide ?_
              go_wp2
              go_roundw
              case rel => first | exact ⟨q + 1, by go_num, by omega, HB4.out, by rw [HNX.out]; exact HN4.out, HK4.out, HNE4.out⟩ | ((repeat apply Exists.intro); exact ⟨⟨q + 1, by go_num, by omega, HB4.out, by rw [HNX.out]; exact HN4.out, HK4.out, HNE4.out⟩, rfl⟩)
              case measure => simp [intOf]; omega
            · have HEN2 : Hid (Rs.map Ru.tm ++ (Ts.take q).map Tm.nm = Rs.map Ru.tm ++ Ts.map Tm.nm) := by unfold Hid; rw [List.take_of_length_le (by omega)]
              rw [HEN2.out] at HN ⊢
              have HKS : Hid (StrsAt wx (.slice ka (kindsL Rs).length kcap) (kindsL Rs)) := HK.out.strs
              have HNS : Hid (StrsAt wx (.slice na2 (Rs.map Ru.tm ++ Ts.map Tm.nm).length ncap2) (Rs.map Ru.tm ++ Ts.map Tm.nm)) := HN.out.strs
              have HBx : Hid (Below w.heap.size w wx) := bt HB2.out HB.out
              have FAx := hide (FA.out.on HB.out)
              have FRx := hide (FR.out.on HB.out)
              have HSW : Hid (hasB (Rs.map Ru.tm ++ Ts.map Tm.nm) = hasB (teamsL Ts Rs)) := hasB_swap _ _
              have HLN : Hid ((Rs.map Ru.tm ++ Ts.map Tm.nm).length ≤ 900000000) := by unfold Hid; rw [List.length_append, List.length_map, List.length_map]; omega
              have HLKn : Hid ((kindsL Rs).length ≤ 900000000) := by unfold Hid kindsL; rw [List.length_map]; omega
              have HNB : Hid (∀ q : Addr, na2 = some q → q.block < wx.heap.size) := fun q h => HN.out.blk (g := q.block) (by rw [h]; rfl)
              generalize hLN : Rs.map Ru.tm ++ Ts.map Tm.nm = LN at HNS HSW HLN ⊢
              generalize hLKK : kindsL Rs = LK at HKS HLKn ⊢
              have HLKK := hide hLKK
              clear hLN hLKK HK HN HNE HEN2 HEK HEN
              go_wp2
              go_cut [12] (fun p wc => ∃ β, p = .pointer (some ⟨β, 0, none⟩) ∧ wx.heap.size ≤ β ∧ Box wc β #[.int .i64 lv, .string r.kd, .string r.tm, .string r.pf] ∧ Below wx.heap.size wx wc)
              case first =>
                have hlt2 : w.heap.size < wx.heap.size := FAx.out.lt
                go_region_held3 (Held1 wx w.heap.size #[.slice a r.vb.length cap, .string r.kd, .string r.tm, .string r.pf])
                  (first
                    | (with_reducible exact Held1.drew FAx.out)
                    | (with_reducible exact Held1.aldrew FAx.out _)
                    | (with_reducible exact Held1.ald FAx.out HD6 _)
                    | (with_reducible exact Held1.on (by assumption) (by assumption))
                    | (with_reducible (refine Held1.al ?_ _; assumption))
                    | (refine Held1.set ?_ (by simp only []; omega) _
                       refine Held1.set ?_ (by simp only []; omega) _
                       refine Held1.set ?_ (by simp only []; omega) _
                       refine Held1.set ?_ (by simp only []; omega) _
                       with_reducible assumption))
                  (first
                    | (go_at_call 19
                       first
                         | refine (HLK wx.drew (bt HBx.out ((Below.refl wx.heap.size wx).drew))).out.mono ?_
                         | refine (HLK (wx.alloc _).drew (bt HBx.out ((one_al wx _).drew))).out.mono ?_
                       rintro e w6 ⟨rfl, hb6⟩
                       first
                         | (have HD6 : Hid (Below wx.heap.size wx w6) := by with_reducible exact hide (drew_on hb6))
                         | (have HD6 : Hid (Below wx.heap.size wx w6) := by with_reducible exact hide (al_drew_on hb6))
                       try (have HX6 : Hid (Box w6 wx.heap.size #[.int .i64 0, .string ⟨#[]⟩, .string ⟨#[]⟩, .string ⟨#[]⟩]) := by with_reducible exact hide (al_box_on hb6)
                            have rr := HX6.out.cell
                            have rf := HX6.out.free
                            have rl := HX6.out.lt
                            have z0 : w6.cell? ⟨wx.heap.size, 0, none⟩ = some (.int .i64 0) := rr 0
                            have z1 : w6.cell? ⟨wx.heap.size, 1, none⟩ = some (.string ⟨#[]⟩) := rr 1
                            have z2 : w6.cell? ⟨wx.heap.size, 2, none⟩ = some (.string ⟨#[]⟩) := rr 2
                            have z3 : w6.cell? ⟨wx.heap.size, 3, none⟩ = some (.string ⟨#[]⟩) := rr 3
                            clear rr)))
                all_goals (go_wp2_with fail)
                all_goals go_meet
                · exact ⟨_, rfl, HD6.out.size, Box.new w6 _ _ _ rfl, bt HD6.out (one_al _ _)⟩
                · exact ⟨_, rfl, Nat.le_refl _, (((HX6.out.put 0 (by simp) _).put 1 (by simp) _).put 2 (by simp) _).put 3 (by simp) _, (((HD6.out.setCell (Nat.le_refl _) _).setCell (Nat.le_refl _) _).setCell (Nat.le_refl _) _).setCell (Nat.le_refl _) _⟩
              case rest =>
                have FR := FRx
                have FRL : Hid (w.heap.size + 1 < wx.heap.size) := FR.out.lt
                obtain ⟨β, rfl, hβ, hbox, hbc⟩ := hcut
                have FX := hide hbox
                have HBc : Hid (Below w.heap.size w wc) := bt HBx.out hbc
                replace FR := hide (FR.out.on hbc)
                replace HKS := hide (HKS.out.below hbc)
                replace HNS := hide (HNS.out.below hbc)
                have hβ2 : w.heap.size + 1 < β := by have := hβ; have := FRL.out; omega
                clear hbox hbc
                cases hk : r.kd.toList.isEmpty with
                | false =>
                  cases ht : r.tm.toList.isEmpty with
                  | false =>
                    have x0 : wc.cell? ⟨β, 0, none⟩ = some (.int .i64 lv) := FX.out.cell 0
                    have x1 : wc.cell? ⟨β, 1, none⟩ = some (.string r.kd) := FX.out.cell 1
                    have x2 : wc.cell? ⟨β, 2, none⟩ = some (.string r.tm) := FX.out.cell 2
                    have x3 : wc.cell? ⟨β, 3, none⟩ = some (.string r.pf) := FX.out.cell 3
                    have xl := FX.out.lt
                    have xf := FX.out.free
                    have rf := FR.out.free
                    have rl := FR.out.lt
                    have r0 : wc.cell? ⟨w.heap.size + 1, 0, none⟩ = some (.int .i64 0) := FR.out.cell 0
                    have r1 : wc.cell? ⟨w.heap.size + 1, 1, none⟩ = some (.string ⟨#[]⟩) := FR.out.cell 1
                    have r2 : wc.cell? ⟨w.heap.size + 1, 2, none⟩ = some (.string ⟨#[]⟩) := FR.out.cell 2
                    have r3 : wc.cell? ⟨w.heap.size + 1, 3, none⟩ = some (.string ⟨#[]⟩) := FR.out.cell 3
                    have HAC : Hid (IsAct Ts Rs r r.kd r.tm) := by unfold Hid IsAct; rw [hk, ht]; exact ⟨by rw [if_neg (by simp)], by rw [if_neg (by simp)]⟩
                    go_wp2
                    refine bodyPost_ret (v := .tuple #[.agg #[.int .i64 lv, .string r.kd, .string r.tm, .string r.pf], .bool true]) (by simp [results, Tryd.results7, go_sem, r0, r1, r2, r3]) rfl ⟨Or.inr ⟨HQ1.out, HQ2.out, r.kd, r.tm, by rw [HLV.out], HAC.out⟩, ?_⟩
                    exact (HST _ _ _ _ _ HBc).out
                  | true =>
                    have x0 : wc.cell? ⟨β, 0, none⟩ = some (.int .i64 lv) := FX.out.cell 0
                    have x1 : wc.cell? ⟨β, 1, none⟩ = some (.string r.kd) := FX.out.cell 1
                    have x2 : wc.cell? ⟨β, 2, none⟩ = some (.string r.tm) := FX.out.cell 2
                    have x3 : wc.cell? ⟨β, 3, none⟩ = some (.string r.pf) := FX.out.cell 3
                    have xl := FX.out.lt
                    have xf := FX.out.free
                    go_wp2_with fail
                    refine (l4New_any 116 _ LN _ HNS.out HLN.out).mono ?_
                    rintro e wtb ⟨tn, rfl, hbtb, hnewt⟩
                    have HNWt : Hid (IsNew (hasB (teamsL Ts Rs)) 116 tn) := by rw [← HSW.out]; exact hnewt
                    have HBtb : Hid (Below w.heap.size w wtb) := bt HBc.out hbtb
                    replace FX := hide (FX.out.on hbtb)
                    replace FR := hide (FR.out.on hbtb)
                    replace HNS := hide (HNS.out.below hbtb)
                    clear hbtb hnewt x0 x1 x2 x3 xl xf
                    have FX2 := hide (FX.out.put 2 (by simp) (.string tn))
                    have FR2 := hide (FR.out.other (p := ⟨β, 2, none⟩) (by show w.heap.size + 1 ≠ β; omega) (.string tn))
                    have HBs : Hid (Below w.heap.size w (wtb.setCell ⟨β, 2, none⟩ (.string tn))) := HBtb.out.setCell (by show w.heap.size ≤ β; omega) _
                    have x0 : wtb.cell? ⟨β, 0, none⟩ = some (.int .i64 lv) := FX.out.cell 0
                    have x1 : wtb.cell? ⟨β, 1, none⟩ = some (.string r.kd) := FX.out.cell 1
                    have x2 : wtb.cell? ⟨β, 2, none⟩ = some (.string r.tm) := FX.out.cell 2
                    have x3 : wtb.cell? ⟨β, 3, none⟩ = some (.string r.pf) := FX.out.cell 3
                    have xl := FX.out.lt
                    have xf := FX.out.free
                    have rf := FR.out.free
                    have rl := FR.out.lt
                    have r0 : wtb.cell? ⟨w.heap.size + 1, 0, none⟩ = some (.int .i64 0) := FR.out.cell 0
                    have r1 : wtb.cell? ⟨w.heap.size + 1, 1, none⟩ = some (.string ⟨#[]⟩) := FR.out.cell 1
                    have r2 : wtb.cell? ⟨w.heap.size + 1, 2, none⟩ = some (.string ⟨#[]⟩) := FR.out.cell 2
                    have r3 : wtb.cell? ⟨w.heap.size + 1, 3, none⟩ = some (.string ⟨#[]⟩) := FR.out.cell 3
                    have hne1 : ¬ (w.heap.size + 1 = β) := by omega
                    have hne2 : ¬ (β = w.heap.size + 1) := by omega
                    have HAC : Hid (IsAct Ts Rs r r.kd tn) := by unfold Hid IsAct; rw [hk, ht]; exact ⟨by rw [if_neg (by simp)], by rw [if_pos rfl]; exact HNWt.out⟩
                    go_wp2
                    refine bodyPost_ret (v := .tuple #[.agg #[.int .i64 lv, .string r.kd, .string tn, .string r.pf], .bool true]) (by simp [results, Tryd.results7, go_sem, r0, r1, r2, r3]) rfl ⟨Or.inr ⟨HQ1.out, HQ2.out, r.kd, tn, by rw [HLV.out], HAC.out⟩, ?_⟩
                    exact (HST _ _ _ _ _ HBs).out
                | true =>
                  cases ht : r.tm.toList.isEmpty with
                  | false =>
                    have x0 : wc.cell? ⟨β, 0, none⟩ = some (.int .i64 lv) := FX.out.cell 0
                    have x1 : wc.cell? ⟨β, 1, none⟩ = some (.string r.kd) := FX.out.cell 1
                    have x2 : wc.cell? ⟨β, 2, none⟩ = some (.string r.tm) := FX.out.cell 2
                    have x3 : wc.cell? ⟨β, 3, none⟩ = some (.string r.pf) := FX.out.cell 3
                    have xl := FX.out.lt
                    have xf := FX.out.free
                    go_wp2_with fail
                    refine (l4New_any 107 _ LK _ HKS.out HLKn.out).mono ?_
                    rintro e wkb ⟨kn, rfl, hbkb, hnewk⟩
                    have HNWk : Hid (IsNew (hasB (kindsL Rs)) 107 kn) := by rw [HLKK.out]; exact hnewk
                    have HBkb : Hid (Below w.heap.size w wkb) := bt HBc.out hbkb
                    replace FX := hide (FX.out.on hbkb)
                    replace FR := hide (FR.out.on hbkb)
                    replace HNS := hide (HNS.out.below hbkb)
                    clear hbkb hnewk x0 x1 x2 x3 xl xf
                    have FX2 := hide (FX.out.put 1 (by simp) (.string kn))
                    have FR2 := hide (FR.out.other (p := ⟨β, 1, none⟩) (by show w.heap.size + 1 ≠ β; omega) (.string kn))
                    have HBs : Hid (Below w.heap.size w (wkb.setCell ⟨β, 1, none⟩ (.string kn))) := HBkb.out.setCell (by show w.heap.size ≤ β; omega) _
                    have x0 : wkb.cell? ⟨β, 0, none⟩ = some (.int .i64 lv) := FX.out.cell 0
                    have x1 : wkb.cell? ⟨β, 1, none⟩ = some (.string r.kd) := FX.out.cell 1
                    have x2 : wkb.cell? ⟨β, 2, none⟩ = some (.string r.tm) := FX.out.cell 2
                    have x3 : wkb.cell? ⟨β, 3, none⟩ = some (.string r.pf) := FX.out.cell 3
                    have xl := FX.out.lt
                    have xf := FX.out.free
                    have rf := FR.out.free
                    have rl := FR.out.lt
                    have r0 : wkb.cell? ⟨w.heap.size + 1, 0, none⟩ = some (.int .i64 0) := FR.out.cell 0
                    have r1 : wkb.cell? ⟨w.heap.size + 1, 1, none⟩ = some (.string ⟨#[]⟩) := FR.out.cell 1
                    have r2 : wkb.cell? ⟨w.heap.size + 1, 2, none⟩ = some (.string ⟨#[]⟩) := FR.out.cell 2
                    have r3 : wkb.cell? ⟨w.heap.size + 1, 3, none⟩ = some (.string ⟨#[]⟩) := FR.out.cell 3
                    have hne1 : ¬ (w.heap.size + 1 = β) := by omega
                    have hne2 : ¬ (β = w.heap.size + 1) := by omega
                    have HAC : Hid (IsAct Ts Rs r kn r.tm) := by unfold Hid IsAct; rw [hk, ht]; exact ⟨by rw [if_pos rfl]; exact HNWk.out, by rw [if_neg (by simp)]⟩
                    go_wp2
                    refine bodyPost_ret (v := .tuple #[.agg #[.int .i64 lv, .string kn, .string r.tm, .string r.pf], .bool true]) (by simp [results, Tryd.results7, go_sem, r0, r1, r2, r3]) rfl ⟨Or.inr ⟨HQ1.out, HQ2.out, kn, r.tm, by rw [HLV.out], HAC.out⟩, ?_⟩
                    exact (HST _ _ _ _ _ HBs).out
                  | true =>
                    have x0 : wc.cell? ⟨β, 0, none⟩ = some (.int .i64 lv) := FX.out.cell 0
                    have x1 : wc.cell? ⟨β, 1, none⟩ = some (.string r.kd) := FX.out.cell 1
                    have x2 : wc.cell? ⟨β, 2, none⟩ = some (.string r.tm) := FX.out.cell 2
                    have x3 : wc.cell? ⟨β, 3, none⟩ = some (.string r.pf) := FX.out.cell 3
                    have xl := FX.out.lt
                    have xf := FX.out.free
                    go_wp2_with fail
                    refine (l4New_any 107 _ LK _ HKS.out HLKn.out).mono ?_
                    rintro e wkb ⟨kn, rfl, hbkb, hnewk⟩
                    have HNWk : Hid (IsNew (hasB (kindsL Rs)) 107 kn) := by rw [HLKK.out]; exact hnewk
                    have HBkb : Hid (Below w.heap.size w wkb) := bt HBc.out hbkb
                    replace FX := hide (FX.out.on hbkb)
                    replace FR := hide (FR.out.on hbkb)
                    replace HNS := hide (HNS.out.below hbkb)
                    clear hbkb hnewk x0 x1 x2 x3 xl xf
                    have FX2 := hide (FX.out.put 1 (by simp) (.string kn))
                    have FR2 := hide (FR.out.other (p := ⟨β, 1, none⟩) (by show w.heap.size + 1 ≠ β; omega) (.string kn))
                    have HBs : Hid (Below w.heap.size w (wkb.setCell ⟨β, 1, none⟩ (.string kn))) := HBkb.out.setCell (by show w.heap.size ≤ β; omega) _
                    have x0 : wkb.cell? ⟨β, 0, none⟩ = some (.int .i64 lv) := FX.out.cell 0
                    have x1 : wkb.cell? ⟨β, 1, none⟩ = some (.string r.kd) := FX.out.cell 1
                    have x2 : wkb.cell? ⟨β, 2, none⟩ = some (.string r.tm) := FX.out.cell 2
                    have x3 : wkb.cell? ⟨β, 3, none⟩ = some (.string r.pf) := FX.out.cell 3
                    have xl := FX.out.lt
                    have xf := FX.out.free
                    have HNS2 : Hid (StrsAt (wkb.setCell ⟨β, 1, none⟩ (.string kn)) (.slice na2 LN.length ncap2) LN) := strs_set HNS.out (fun q h => Nat.lt_of_lt_of_le (HNB.out q h) hβ) _
                    go_wp2_with fail
                    generalize hSw : wkb.setCell ⟨β, 1, none⟩ (.string kn) = wk
                    rw [hSw] at FX2 FR2 HBs HNS2
                    have HBk := HBs
                    clear hSw x0 x1 x2 x3 xl xf FX FR HBs HNS
                    have FX : Hid (Box wk β #[.int .i64 lv, .string kn, .string r.tm, .string r.pf]) := FX2.out
                    have FR := FR2
                    have HNS := HNS2
                    clear FX2 FR2 HNS2
                    have x0 : wk.cell? ⟨β, 0, none⟩ = some (.int .i64 lv) := FX.out.cell 0
                    have x1 : wk.cell? ⟨β, 1, none⟩ = some (.string kn) := FX.out.cell 1
                    have x2 : wk.cell? ⟨β, 2, none⟩ = some (.string r.tm) := FX.out.cell 2
                    have x3 : wk.cell? ⟨β, 3, none⟩ = some (.string r.pf) := FX.out.cell 3
                    have xl := FX.out.lt
                    have xf := FX.out.free
                    go_wp2_with fail
                    refine (l4New_any 116 _ LN _ HNS.out HLN.out).mono ?_
                    rintro e wtb ⟨tn, rfl, hbtb, hnewt⟩
                    have HNWt : Hid (IsNew (hasB (teamsL Ts Rs)) 116 tn) := by rw [← HSW.out]; exact hnewt
                    have HBtb : Hid (Below w.heap.size w wtb) := bt HBk.out hbtb
                    replace FX := hide (FX.out.on hbtb)
                    replace FR := hide (FR.out.on hbtb)
                    replace HNS := hide (HNS.out.below hbtb)
                    clear hbtb hnewt x0 x1 x2 x3 xl xf
                    have FX2 := hide (FX.out.put 2 (by simp) (.string tn))
                    have FR2 := hide (FR.out.other (p := ⟨β, 2, none⟩) (by show w.heap.size + 1 ≠ β; omega) (.string tn))
                    have HBs : Hid (Below w.heap.size w (wtb.setCell ⟨β, 2, none⟩ (.string tn))) := HBtb.out.setCell (by show w.heap.size ≤ β; omega) _
                    have x0 : wtb.cell? ⟨β, 0, none⟩ = some (.int .i64 lv) := FX.out.cell 0
                    have x1 : wtb.cell? ⟨β, 1, none⟩ = some (.string kn) := FX.out.cell 1
                    have x2 : wtb.cell? ⟨β, 2, none⟩ = some (.string r.tm) := FX.out.cell 2
                    have x3 : wtb.cell? ⟨β, 3, none⟩ = some (.string r.pf) := FX.out.cell 3
                    have xl := FX.out.lt
                    have xf := FX.out.free
                    have rf := FR.out.free
                    have rl := FR.out.lt
                    have r0 : wtb.cell? ⟨w.heap.size + 1, 0, none⟩ = some (.int .i64 0) := FR.out.cell 0
                    have r1 : wtb.cell? ⟨w.heap.size + 1, 1, none⟩ = some (.string ⟨#[]⟩) := FR.out.cell 1
                    have r2 : wtb.cell? ⟨w.heap.size + 1, 2, none⟩ = some (.string ⟨#[]⟩) := FR.out.cell 2
                    have r3 : wtb.cell? ⟨w.heap.size + 1, 3, none⟩ = some (.string ⟨#[]⟩) := FR.out.cell 3
                    have hne1 : ¬ (w.heap.size + 1 = β) := by omega
                    have hne2 : ¬ (β = w.heap.size + 1) := by omega
                    have HAC : Hid (IsAct Ts Rs r kn tn) := by unfold Hid IsAct; rw [hk, ht]; exact ⟨by rw [if_pos rfl]; exact HNWk.out, by rw [if_pos rfl]; exact HNWt.out⟩
                    go_wp2
                    refine bodyPost_ret (v := .tuple #[.agg #[.int .i64 lv, .string kn, .string tn, .string r.pf], .bool true]) (by simp [results, Tryd.results7, go_sem, r0, r1, r2, r3]) rfl ⟨Or.inr ⟨HQ1.out, HQ2.out, kn, tn, by rw [HLV.out], HAC.out⟩, ?_⟩
                    exact (HST _ _ _ _ _ HBs).out
end Go.Proofs.YtfajekibnjdlmabDoor
