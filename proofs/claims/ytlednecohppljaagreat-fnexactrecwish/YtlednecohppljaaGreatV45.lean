import Derived.Test.YtlednecohppljaaGreatV39
namespace Go.Proofs.YtlednecohppljaaGreat
open Go.RowKit Go.Deep

theorem szN {cs : List Value} (h : cs.length = 18) : (Tryz.prog.info? 41).map (·.size) = some cs.toArray.size := by rw [show cs.toArray.size = 18 from h]; exact sizeRr
def specW (U : Rr) (tx : ByteArray) : Rr := if validR U then (if U.up then wishU U tx else U) else nwU 0 0 false
theorem wish_small {U : Rr} (h : RrSmall U) (tx : ByteArray) : RrSmall (wishU U tx) := by
  unfold wishU
  split
  · rename_i hw
    obtain ⟨h0, h1, h2, h3, h4, h5, h6⟩ := h
    refine ⟨h0, h1, h2, ?_, h4, h5, h6⟩
    unfold wishOkB at hw
    simp only [Bool.and_eq_true, Bool.not_eq_true', decide_eq_false_iff_not] at hw
    unfold RtsSmall at h3 ⊢
    simp only [List.length_append, List.length_cons, List.length_nil]
    omega
  · exact h
theorem nw_small (n of : Int) (up : Bool) : RrSmall (nwU n of up) := by
  unfold RrSmall RdSmall RssSmall RmsSmall RtsSmall RisSmall RasSmall nwU
  simp
theorem specW_small {U : Rr} (h : RrSmall U) (tx : ByteArray) : RrSmall (specW U tx) := by
  unfold specW
  split
  · split
    · exact wish_small h tx
    · exact h
  · exact nw_small _ _ _
theorem valid_kn {U : Rr} (h : validR U = true) : 0 ≤ U.dk.kn ∧ U.dk.kn ≤ (U.dk.sl.length : Int) := by
  unfold validR at h
  simp only [Bool.and_eq_true] at h
  have h2 := h.2.2.2.1
  unfold diskB at h2
  simp only [Bool.and_eq_true] at h2
  have h3 := h2.2.2.1
  unfold inB at h3
  simpa using h3
theorem nwL_len (n of : Int) (up : Bool) : (nwL n of up).length = 18 := rfl
theorem rrL_len (U : Rr) (a0 : Option Addr) (k0 : Nat) ( a1 : Option Addr) (k1 : Nat) ( a2 : Option Addr) (k2 : Nat) ( a3 : Option Addr) (k3 : Nat) ( a4 : Option Addr) (k4 : Nat) ( a5 : Option Addr) (k5 : Nat) (a6 : Option Addr) (k6 : Nat) : (rrL U a0 k0 a1 k1 a2 k2 a3 k3 a4 k4 a5 k5 a6 k6).length = 18 := rfl
theorem rrL_one (U : Rr) (a0 : Option Addr) (k0 : Nat) ( a1 : Option Addr) (k1 : Nat) ( a2 : Option Addr) (k2 : Nat) ( a3 : Option Addr) (k3 : Nat) ( a4 : Option Addr) (k4 : Nat) ( a5 : Option Addr) (k5 : Nat) (a6 : Option Addr) (k6 : Nat) : (rrL U a0 k0 a1 k1 a2 k2 a3 k3 a4 k4 a5 k5 a6 k6).toArray.all (·.oneCell') = true := by simp [rrL, Value.oneCell']
theorem nwL_one (n of : Int) (up : Bool) : (nwL n of up).toArray.all (·.oneCell') = true := by simp [nwL, Value.oneCell']

theorem Touch.belowB {lo hi : Nat} {w w' : World} (h : Touch lo hi w w') {p : Addr} (hp : p.block < w.heap.size) (ho : hi ≤ p.block) : w'.cell? p = w.cell? p := h.cell hp (Or.inr ho)
theorem RssAt.tup {lo l u : Nat} {w w' : World} {v : Value} {L : List Rs} (h : RssAt lo w v L) (ht : Touch l u w w') (hu : u ≤ lo) : RssAt lo w' v L := by
  rcases h with h | ⟨b, off, cap, h1, h2, h3, h4, h5, h6, h7⟩
  · exact Or.inl h
  · refine Or.inr ⟨b, off, cap, h1, h2, h3, Nat.lt_of_lt_of_le h4 ht.size, h5, h6, fun i hi => ?_⟩
    obtain ⟨hs, hc⟩ := h7 i hi
    exact ⟨hs, ⟨(ht.belowB (p := ⟨b, _, none⟩) h4 (Nat.le_trans hu h5)).trans hc.c0, (ht.belowB (p := ⟨b, _, none⟩) h4 (Nat.le_trans hu h5)).trans hc.c1⟩⟩
theorem RisAt.tup {lo l u : Nat} {w w' : World} {v : Value} {L : List Int} (h : RisAt lo w v L) (ht : Touch l u w w') (hu : u ≤ lo) : RisAt lo w' v L := by
  rcases h with h | ⟨b, off, cap, h1, h2, h3, h4, h5, h6, h7⟩
  · exact Or.inl h
  · exact Or.inr ⟨b, off, cap, h1, h2, h3, Nat.lt_of_lt_of_le h4 ht.size, h5, h6, fun i hi => ⟨(h7 i hi).1, (ht.belowB (p := ⟨b, _, none⟩) h4 (Nat.le_trans hu h5)).trans (h7 i hi).2⟩⟩
theorem RtsAt.tup {lo l u : Nat} {w w' : World} {v : Value} {L : List ByteArray} (h : RtsAt lo w v L) (ht : Touch l u w w') (hu : u ≤ lo) : RtsAt lo w' v L := by
  rcases h with h | ⟨b, off, cap, h1, h2, h3, h4, h5, h6, h7⟩
  · exact Or.inl h
  · exact Or.inr ⟨b, off, cap, h1, h2, h3, Nat.lt_of_lt_of_le h4 ht.size, h5, h6, fun i hi => ⟨(h7 i hi).1, (ht.belowB (p := ⟨b, _, none⟩) h4 (Nat.le_trans hu h5)).trans (h7 i hi).2⟩⟩
theorem rng_tup {l u b o : Nat} {w w' : World} {cs : List Value} (h : w.rangeAt b o cs) (ht : Touch l u w w') (hb : b < w.heap.size) (hu : u ≤ b) : w'.rangeAt b o cs := fun j v hv => (ht.belowB (p := ⟨b, o + j, none⟩) hb hu).trans (h j v hv)
theorem RmsAt.tup {lo l u : Nat} {w w' : World} {v : Value} {L : List Rm} (h : RmsAt lo w v L) (ht : Touch l u w w') (hu : u ≤ lo) : RmsAt lo w' v L := by
  rcases h with h | ⟨b, off, cap, h1, h2, h3, h4, h5, h6, h7⟩
  · exact Or.inl h
  · refine Or.inr ⟨b, off, cap, h1, h2, h3, Nat.lt_of_lt_of_le h4 ht.size, h5, h6, fun i hi => ?_⟩
    obtain ⟨cs, hr, a0, k0, e, hf⟩ := h7 i hi
    exact ⟨cs, rng_tup hr ht h4 (Nat.le_trans hu h5), a0, k0, e, ⟨hf.l0.tup ht hu, hf.s0⟩⟩
theorem RasAt.tup {lo l u : Nat} {w w' : World} {v : Value} {L : List Ra} (h : RasAt lo w v L) (ht : Touch l u w w') (hu : u ≤ lo) : RasAt lo w' v L := by
  rcases h with h | ⟨b, off, cap, h1, h2, h3, h4, h5, h6, h7⟩
  · exact Or.inl h
  · refine Or.inr ⟨b, off, cap, h1, h2, h3, Nat.lt_of_lt_of_le h4 ht.size, h5, h6, fun i hi => ?_⟩
    obtain ⟨cs, hr, a0, k0, e, hf⟩ := h7 i hi
    exact ⟨cs, rng_tup hr ht h4 (Nat.le_trans hu h5), a0, k0, e, ⟨hf.l0.tup ht hu⟩⟩
theorem RrAt.touchUp {lo l u : Nat} {w w' : World} {v0 v1 v2 v3 v4 v5 v6 : Value} {U : Rr} (h : RrAt lo w v0 v1 v2 v3 v4 v5 v6 U) (ht : Touch l u w w') (hu : u ≤ lo) : RrAt lo w' v0 v1 v2 v3 v4 v5 v6 U :=
  ⟨h.l0.tup ht hu, h.l1.tup ht hu, h.l2.tup ht hu, h.l3.tup ht hu, h.l4.tup ht hu, h.l5.tup ht hu, h.l6.tup ht hu⟩


set_option maxRecDepth 20000 in
set_option maxHeartbeats 16000000 in
theorem specWish_any (cs : List Value) (U : Rr) (tx : ByteArray) (w : World) (h : RrC 0 w cs U) (hn : RrSmall U) (htx : tx.size ≤ 1048576) :
    Calls Tryz.prog 16 #[.agg cs.toArray, .string tx] w fun e w' => ∃ cs', e = .returned (.agg cs'.toArray) ∧ Below w.heap.size w w' ∧ RrC 0 w' cs' (specW U tx) := by
  have HC := hide h
  have HN := hide hn
  have HZ := hide h.sizes
  have HTX : Hid (tx.size ≤ maxLen) := by unfold Hid maxLen; omega
  have HS : Hid ((Tryz.prog.info? 41).map (·.size) = some cs.length) := by unfold Hid; rw [h.len]; exact sizeRr
  have hup := (rr_at h).2.2.1
  have HUP := hide hup
  have HE : Hid (specW U tx = if validR U then (if U.up then wishU U tx else U) else nwU 0 0 false) := rfl
  clear h hn hup
  have HR0 : Hid (World.rangeAt ((w.alloc (.cells cs.toArray 41)).alloc (.cells #[.int .i64 0, .int .i64 0, .bool false, .int .i64 0, .int .i64 0, .slice none 0 0, .int .i64 0, .int .i64 0, .slice none 0 0, .slice none 0 0, .slice none 0 0, .bool false, .bool false, .int .i64 0, .slice none 0 0, .slice none 0 0, .slice none 0 0, .int .i64 0] 41)) w.heap.size 0 cs) := ((Box.new w _ _ _ rfl).on (one_al _ _)).range rfl
  go_enter Tryz.func16, Tryz.ntmps16
  go_wp2_with (with_reducible refine wpList_load_mid (by with_reducible rfl) 41 (.tmp 2) (by with_reducible rfl) w.heap.size 0 (by with_unfolding_all rfl) cs _ HR0.out Tryz.underlying41 (by with_unfolding_all rfl) HS.out ?_)
  obtain ⟨wz, hwz, FB, RB, HB⟩ : ∃ wz, wz = (w.alloc (.cells cs.toArray 41)).alloc (.cells #[.int .i64 0, .int .i64 0, .bool false, .int .i64 0, .int .i64 0, .slice none 0 0, .int .i64 0, .int .i64 0, .slice none 0 0, .slice none 0 0, .slice none 0 0, .bool false, .bool false, .int .i64 0, .slice none 0 0, .slice none 0 0, .slice none 0 0, .int .i64 0] 41) ∧ Hid (Box wz w.heap.size cs.toArray) ∧ Hid (Box wz (w.heap.size + 1) #[.int .i64 0, .int .i64 0, .bool false, .int .i64 0, .int .i64 0, .slice none 0 0, .int .i64 0, .int .i64 0, .slice none 0 0, .slice none 0 0, .slice none 0 0, .bool false, .bool false, .int .i64 0, .slice none 0 0, .slice none 0 0, .slice none 0 0, .int .i64 0]) ∧ Hid (Below w.heap.size w wz) :=
    ⟨_, rfl, (Box.new w _ _ _ rfl).on (one_al _ _), Box.new _ _ _ _ (by simp), (one_al _ _).trans ((one_al _ _).mono (by simp))⟩
  rw [← hwz]
  clear hwz HR0
  refine (specValidR_any 0 cs U _ (HC.out.below HB.out) HN.out).mono ?_
  rintro e w1 ⟨rfl, hb⟩
  replace HB : Hid (Below w.heap.size w w1) := bt HB.out hb
  replace FB := hide (FB.out.on hb)
  replace RB := hide (RB.out.on hb)
  clear hb
  cases qv : validR U with
  | false =>
    have HV : Hid (specW U tx = nwU 0 0 false) := by unfold Hid; rw [HE.out, qv]; rfl
    obtain ⟨zl, hzl⟩ : ∃ zl, zl = nwL 0 0 false := ⟨_, rfl⟩
    have hz18 : zl.length = 18 := by rw [hzl]; rfl
    have HON : Hid (zl.toArray.all (·.oneCell') = true) := by unfold Hid; rw [hzl]; exact nwL_one _ _ _
    have HZL := hide hzl
    have hzb : ∀ u, Sem.run Tryz.prog (zeroValue 41) u = .ok (.agg zl.toArray) u := by rw [hzl]; intro u; kernel_rfl
    clear hzl
    have HTH : Hid (World.there w1 (w.heap.size + 1) 0 zl.toArray.size) := by unfold Hid; rw [show zl.toArray.size = 18 from hz18]; exact RB.out.there rfl
    go_wp2_with (with_reducible refine wpList_store_mid (by with_reducible rfl) 41 (.tmp 4) (.tmp 8) (by with_reducible rfl) (w.heap.size + 1) 0 zl.toArray (by with_unfolding_all rfl) (by with_unfolding_all rfl) HTH.out (szN hz18) HON.out ?_; refine Hid.out ?_)
    generalize hW : World.setCells _ _ _ _ = W9
    have FR9 : Hid (Box W9 (w.heap.size + 1) zl.toArray) := by unfold Hid; rw [← hW]; exact RB.out.full (by rw [show zl.toArray.size = 18 from hz18]; rfl)
    have TT : Hid (Touch (w.heap.size + 1) (w.heap.size + 2) w1 W9) := by unfold Hid; rw [← hW]; exact Touch.sets ⟨by omega, by omega⟩ _ _ _
    have HB9 : Hid (Below w.heap.size w W9) := HB.out.trans ((TT.out.under (by have := RB.out.lt; omega)).mono (by omega))
    clear hW
    refine hide ?_
    go_wp2
    exact bodyPost_ret (v := .agg zl.toArray) (res_rr (p := 4) (ty := 41) Tryz.results16 _ _ (w.heap.size + 1) 0 zl _ rfl (FR9.out.range rfl) Tryz.underlying41 rfl (by rw [hz18]; exact sizeRr)) rfl ⟨zl, rfl, HB9.out, by rw [HV.out, HZL.out]; exact nw_c _ _ _ _⟩
  | true =>
  cases qu : U.up with
  | false =>
    have HV : Hid (specW U tx = U) := by unfold Hid; rw [HE.out, qv, qu]; rfl
    have g2 : w1.cell? ⟨w.heap.size, 2, none⟩ = some (.bool false) := by rw [FB.out.cell 2, List.getElem?_toArray, HUP.out, qu]
    have HRA := hide (FB.out.range (l := cs) rfl)
    go_wp2_with (with_reducible refine wpList_load_mid (by with_reducible rfl) 41 (.tmp 2) (by with_reducible rfl) w.heap.size 0 (by with_unfolding_all rfl) cs _ HRA.out Tryz.underlying41 (by with_unfolding_all rfl) HS.out ?_)
    clear g2 HRA
    refine (copyR_any 0 cs U _ (HC.out.below HB.out) HN.out).mono ?_
    rintro e w2 ⟨b0, m0, b1, m1, b2, m2, b3, m3, b4, m4, b5, m5, b6, m6, c, rfl, hb, hcp⟩
    have hsz : w.heap.size + 2 ≤ w1.heap.size := by have := RB.out.lt; omega
    replace HB : Hid (Below w.heap.size w w2) := bt HB.out hb
    replace RB := hide (RB.out.on hb)
    have HCP := hide (hcp.at HZ.out)
    clear hb hcp
    obtain ⟨yl, hyl⟩ : ∃ yl, yl = rrL U b0 m0 b1 m1 b2 m2 b3 m3 b4 m4 b5 m5 b6 m6 := ⟨_, rfl⟩
    rw [← hyl]
    have hy18 : yl.length = 18 := by rw [hyl]; rfl
    have HON : Hid (yl.toArray.all (·.oneCell') = true) := by unfold Hid; rw [hyl]; exact rrL_one _ _ _ _ _ _ _ _ _ _ _ _ _ _ _
    have HYL := hide hyl
    clear hyl
    have HTH : Hid (World.there w2 (w.heap.size + 1) 0 yl.toArray.size) := by unfold Hid; rw [show yl.toArray.size = 18 from hy18]; exact RB.out.there rfl
    go_wp2_with (with_reducible refine wpList_store_mid (by with_reducible rfl) 41 (.tmp 4) (.tmp 13) (by with_reducible rfl) (w.heap.size + 1) 0 yl.toArray (by with_unfolding_all rfl) (by with_unfolding_all rfl) HTH.out (szN hy18) HON.out ?_; refine Hid.out ?_)
    generalize hW : World.setCells _ _ _ _ = W9
    have FR9 : Hid (Box W9 (w.heap.size + 1) yl.toArray) := by unfold Hid; rw [← hW]; exact RB.out.full (by rw [show yl.toArray.size = 18 from hy18]; rfl)
    have TT : Hid (Touch (w.heap.size + 1) (w.heap.size + 2) w2 W9) := by unfold Hid; rw [← hW]; exact Touch.sets ⟨by omega, by omega⟩ _ _ _
    have HB9 : Hid (Below w.heap.size w W9) := HB.out.trans ((TT.out.under (by have := RB.out.lt; omega)).mono (by omega))
    clear hW
    refine hide ?_
    go_wp2
    exact bodyPost_ret (v := .agg yl.toArray) (res_rr (p := 4) (ty := 41) Tryz.results16 _ _ (w.heap.size + 1) 0 yl _ rfl (FR9.out.range rfl) Tryz.underlying41 rfl (by rw [hy18]; exact sizeRr)) rfl ⟨yl, rfl, HB9.out, by
          rw [HV.out, HYL.out]
          exact ⟨b0, m0, b1, m1, b2, m2, b3, m3, b4, m4, b5, m5, b6, m6, rfl, (RrAt.touchUp HCP.out TT.out (by omega)).mono (Nat.zero_le _)⟩⟩
  | true =>
    have HV : Hid (specW U tx = wishU U tx) := by unfold Hid; rw [HE.out, qv, qu]; rfl
    have HKN := hide (valid_kn qv)
    have g2 : w1.cell? ⟨w.heap.size, 2, none⟩ = some (.bool true) := by rw [FB.out.cell 2, List.getElem?_toArray, HUP.out, qu]
    have HRA := hide (FB.out.range (l := cs) rfl)
    go_wp2_with (with_reducible refine wpList_load_mid (by with_reducible rfl) 41 (.tmp 2) (by with_reducible rfl) w.heap.size 0 (by with_unfolding_all rfl) cs _ HRA.out Tryz.underlying41 (by with_unfolding_all rfl) HS.out ?_)
    clear g2 HRA
    have hsz : w.heap.size + 2 ≤ w1.heap.size := by have := RB.out.lt; omega
    refine (copyR_any 0 cs U _ (HC.out.below HB.out) HN.out).mono ?_
    rintro e w2 ⟨b0, m0, b1, m1, b2, m2, b3, m3, b4, m4, b5, m5, b6, m6, c, rfl, hb, hcp⟩
    have hs2 : w1.heap.size ≤ w2.heap.size := hb.size
    replace HB : Hid (Below w.heap.size w w2) := bt HB.out hb
    replace RB := hide (RB.out.on hb)
    have HCP := hide hcp
    clear hb hcp
    go_wp2_with fail
    refine (wishX_any w1.heap.size U tx b0 m0 b1 m1 b2 m2 b3 m3 b4 m4 b5 m5 b6 m6 c _ HCP.out HZ.out HKN.out HTX.out hs2 (by have := HN.out.2.2.2.1; unfold RtsSmall at this; exact this)).mono ?_
    rintro e w3 ⟨xs, rfl, hb, hrc⟩
    have hs3 : w2.heap.size ≤ w3.heap.size := hb.size
    replace HB : Hid (Below w.heap.size w w3) := HB.out.trans (hb.mono (by omega))
    replace RB := hide (RB.out.below hb (by omega))
    have HRC := hide hrc
    clear hb hrc
    go_wp2_with fail
    refine (copyR_any w1.heap.size xs (wishU U tx) _ HRC.out (wish_small HN.out tx)).mono ?_
    rintro e w4 ⟨d0, n0, d1, n1, d2, n2, d3, n3, d4, n4, d5, n5, d6, n6, c', rfl, hb, hcp⟩
    replace HB : Hid (Below w.heap.size w w4) := bt HB.out hb
    replace RB := hide (RB.out.on hb)
    have HCQ := hide (hcp.at HRC.out.sizes)
    clear hb hcp
    obtain ⟨yl, hyl⟩ : ∃ yl, yl = rrL (wishU U tx) d0 n0 d1 n1 d2 n2 d3 n3 d4 n4 d5 n5 d6 n6 := ⟨_, rfl⟩
    rw [← hyl]
    have hy18 : yl.length = 18 := by rw [hyl]; rfl
    have HON : Hid (yl.toArray.all (·.oneCell') = true) := by unfold Hid; rw [hyl]; exact rrL_one _ _ _ _ _ _ _ _ _ _ _ _ _ _ _
    have HYL := hide hyl
    clear hyl
    have HTH : Hid (World.there w4 (w.heap.size + 1) 0 yl.toArray.size) := by unfold Hid; rw [show yl.toArray.size = 18 from hy18]; exact RB.out.there rfl
    go_wp2_with (with_reducible refine wpList_store_mid (by with_reducible rfl) 41 (.tmp 4) (.tmp 18) (by with_reducible rfl) (w.heap.size + 1) 0 yl.toArray (by with_unfolding_all rfl) (by with_unfolding_all rfl) HTH.out (szN hy18) HON.out ?_; refine Hid.out ?_)
    generalize hW : World.setCells _ _ _ _ = W9
    have FR9 : Hid (Box W9 (w.heap.size + 1) yl.toArray) := by unfold Hid; rw [← hW]; exact RB.out.full (by rw [show yl.toArray.size = 18 from hy18]; rfl)
    have TT : Hid (Touch (w.heap.size + 1) (w.heap.size + 2) w4 W9) := by unfold Hid; rw [← hW]; exact Touch.sets ⟨by omega, by omega⟩ _ _ _
    have HB9 : Hid (Below w.heap.size w W9) := HB.out.trans ((TT.out.under (by have := RB.out.lt; omega)).mono (by omega))
    clear hW
    refine hide ?_
    go_wp2
    exact bodyPost_ret (v := .agg yl.toArray) (res_rr (p := 4) (ty := 41) Tryz.results16 _ _ (w.heap.size + 1) 0 yl _ rfl (FR9.out.range rfl) Tryz.underlying41 rfl (by rw [hy18]; exact sizeRr)) rfl ⟨yl, rfl, HB9.out, by
          rw [HV.out, HYL.out]
          exact ⟨d0, n0, d1, n1, d2, n2, d3, n3, d4, n4, d5, n5, d6, n6, rfl, (RrAt.touchUp HCQ.out TT.out (by omega)).mono (Nat.zero_le _)⟩⟩
end Go.Proofs.YtlednecohppljaaGreat
