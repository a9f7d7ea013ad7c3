import Derived.Test.YtlednecohppljaaB38
import Derived.Test.YtlednecohppljaaB39
import Derived.Deep.RegionHeld3
namespace Go.Proofs.Ytlednecohppljaa
open Go.RowKit Go.Deep

theorem sizeRrL : (Try.prog.info? 37).map (·.size) = some 18 := by kernel_rfl
theorem szA {cs : List Value} (h : cs.length = 18) : (Try.prog.info? 45).map (·.size) = some cs.toArray.size := by rw [List.size_toArray, h]; exact sizeRr
def z18 : List Value := [.int .i64 0, .int .i64 0, .bool false, .int .i64 0, .int .i64 0, .slice none 0 0, .int .i64 0, .int .i64 0, .slice none 0 0, .slice none 0 0, .slice none 0 0, .bool false, .bool false, .int .i64 0, .slice none 0 0, .slice none 0 0, .slice none 0 0, .int .i64 0]

set_option maxRecDepth 20000 in
set_option maxHeartbeats 16000000 in
theorem law_book (cs0 : List Value) (U : Rr) (V : List ByteArray) (w : World) (h0 : RrC 0 w cs0 U)
    (hspec : RrSmall U → V.length ≤ 1048576 ∧ ∀ (cs : List Value) (w : World), RrC 0 w cs U → Calls Try.prog 13 #[.agg cs.toArray] w fun e w' => ∃ v', e = .returned v' ∧ Below w.heap.size w w' ∧ RtsAt 0 w' v' V)
    (himp : ∀ (cs : List Value) (w : World), RrC 0 w cs U → Calls Try.prog 15 #[.agg cs.toArray] w fun e w' => ∃ v', e = .returned v' ∧ Below w.heap.size w w' ∧ RtsOwn w.heap.size w'.heap.size w' v' V) :
    Calls Try.prog 4 #[.agg cs0.toArray] w fun e w' => e = .returned (.bool true) ∧ Below w.heap.size w w' := by
  have H0 := hide h0
  have HIM := hide himp
  have HSPEC := hide hspec
  have HZ0 : Hid ((Try.prog.info? 37).map (·.size) = some cs0.length) := by unfold Hid; rw [h0.len]; exact sizeRrL
  have HTN : Hid (∀ (X : World) (cs : List Value), cs.length = 18 → (X.alloc (.cells z18.toArray 45)).there X.heap.size 0 cs.toArray.size) := fun X cs h => by rw [show cs.toArray.size = 18 from h]; exact there_made _ _ _ _ rfl
  have HBX : Hid (∀ (X : World) (cs : List Value), cs.length = 18 → Box ((X.alloc (.cells z18.toArray 45)).setCells X.heap.size 0 cs.toArray.toList) X.heap.size cs.toArray) := fun X cs h => (Box.new _ _ _ _ rfl).full (by rw [show cs.toArray.size = 18 from h]; rfl)
  clear himp hspec h0
  go_enter Try.func4, Try.ntmps4
  have HR0 : Hid (World.rangeAt (w.alloc (.cells cs0.toArray 37)) w.heap.size 0 cs0) := (Box.new _ _ _ _ rfl).range rfl
  go_wp2_with (with_reducible refine wpList_load_mid (by with_reducible rfl) 37 (.tmp 1) (by with_reducible rfl) w.heap.size 0 (by with_unfolding_all rfl) cs0 _ HR0.out Try.underlying37 (by with_unfolding_all rfl) HZ0.out ?_)
  generalize hWa : w.alloc _ = w0
  have HB : Hid (Below w.heap.size w w0) := by unfold Hid; rw [← hWa]; exact one_al w _
  have F0 : Hid (Box w0 w.heap.size cs0.toArray) := by unfold Hid; rw [← hWa]; exact Box.new _ _ _ _ rfl
  have hs0 : w.heap.size < w0.heap.size := F0.out.lt
  clear hWa HR0
  refine (szRr_c 0 _ U _ _ (by omega) (by omega) (H0.out.below HB.out)).mono ?_
  rintro e w1 ⟨q0, rfl, hb, r0a, r0b, r0c⟩
  have hz1 : w0.heap.size ≤ w1.heap.size := hb.size
  replace HB : Hid (Below w.heap.size w w1) := bt HB.out hb
  replace F0 := hide (F0.out.on hb)
  clear hb
  have HQ := hide r0c
  clear r0c
  by_cases hneg0 : q0 < 0
  · go_wp2
    go_ret
    exact ⟨rfl, HB.out⟩
  have M0 : Hid (RrSmall U) := HQ.out (by omega)
  clear HQ r0a r0b
  obtain ⟨hV, hsp⟩ := HSPEC.out M0.out
  have HSP := hide hsp
  clear hsp HSPEC
  go_wp2_with (first | (with_reducible refine wpList_load_mid (by with_reducible rfl) 37 (.tmp 1) (by with_reducible rfl) w.heap.size 0 (by with_unfolding_all rfl) cs0 _ (F0.out.range rfl) Try.underlying37 (by with_unfolding_all rfl) HZ0.out ?_))
  clear hneg0
  refine (toRr_c 0 _ U _ (H0.out.below HB.out) M0.out).mono ?_
  rintro e w2 ⟨xs, rfl, hb, hs⟩
  have hz2 : w1.heap.size ≤ w2.heap.size := hb.size
  replace HB : Hid (Below w.heap.size w w2) := bt HB.out hb
  replace F0 := hide (F0.out.on hb)
  clear hb
  have SX := hide (hs.mono (Nat.zero_le _))
  clear hs
  go_wp2_with fail
  refine (HSP.out _ _ SX.out).mono ?_
  rintro e w3 ⟨v4, rfl, hb, hs⟩
  have hz3 : w2.heap.size ≤ w3.heap.size := hb.size
  replace HB : Hid (Below w.heap.size w w3) := bt HB.out hb
  replace F0 := hide (F0.out.on hb)
  clear hb
  have S4 := hide hs
  obtain ⟨e4, f4, rfl⟩ := hs.form
  clear SX hs
  have B4 : Hid (Below w3.heap.size w3 w3) := Below.refl _ _
  go_wp2_with (first | (with_reducible refine wpList_load_mid (by with_reducible rfl) 37 (.tmp 1) (by with_reducible rfl) w.heap.size 0 (by with_unfolding_all rfl) cs0 _ (F0.out.range rfl) Try.underlying37 (by with_unfolding_all rfl) HZ0.out ?_))
  refine (toRrO_any 0 _ U _ (H0.out.below HB.out) M0.out).mono ?_
  rintro e w4 ⟨cs7, rfl, hb, hs⟩
  have hz4 : w3.heap.size ≤ w4.heap.size := hb.size
  replace HB : Hid (Below w.heap.size w w4) := bt HB.out hb
  replace F0 := hide (F0.out.on hb)
  replace B4 : Hid (Below w3.heap.size w3 w4) := bt B4.out hb
  clear hb
  have T7 := hide hs
  have Lcs7 : Hid (cs7.length = 18) := hs.at.len
  have ONcs7 : Hid (cs7.toArray.all (·.oneCell') = true) := hs.at.one
  have HZcs7 : Hid ((Try.prog.info? 45).map (·.size) = some cs7.length) := by unfold Hid; rw [Lcs7.out]; exact sizeRr
  clear hs
  go_wp2_with (with_reducible refine wpList_store_mid (by with_reducible rfl) 45 (.tmp 5) (.tmp 20) (by with_reducible rfl) w4.heap.size 0 cs7.toArray (by with_unfolding_all rfl) (by with_unfolding_all rfl) (HTN.out _ _ Lcs7.out) (szA Lcs7.out) ONcs7.out ?_; refine Hid.out ?_)
  generalize hW : World.setCells _ _ _ _ = w5
  have F7n : Hid (Box w5 w4.heap.size cs7.toArray) := by unfold Hid; rw [← hW]; exact HBX.out _ _ Lcs7.out
  have hb : Below w4.heap.size w4 w5 := by rw [← hW]; exact Below.sets (Nat.le_refl _) _ _ (one_al _ _)
  have hs5 : w4.heap.size < w5.heap.size := by have := F7n.out.lt; omega
  clear hW
  have hz5 : w4.heap.size ≤ w5.heap.size := hb.size
  replace HB : Hid (Below w.heap.size w w5) := bt HB.out hb
  replace F0 := hide (F0.out.on hb)
  replace B4 : Hid (Below w3.heap.size w3 w5) := bt B4.out hb
  replace T7 := hide (T7.out.below hb)
  clear hb
  have F7 := F7n
  clear F7n
  refine hide ?_
  go_wp2_with (first | (with_reducible refine wpList_load_mid (by with_reducible rfl) 45 (.tmp 5) (by with_reducible rfl) w4.heap.size 0 (by with_unfolding_all rfl) cs7 _ (F7.out.range rfl) Try.underlying45 (by with_unfolding_all rfl) HZcs7.out ?_))
  refine (HIM.out _ _ (T7.out.at.mono (Nat.zero_le _))).mono ?_
  rintro e w6 ⟨v6, rfl, hb, hs⟩
  have hz6 : w5.heap.size ≤ w6.heap.size := hb.size
  replace HB : Hid (Below w.heap.size w w6) := bt HB.out hb
  replace F0 := hide (F0.out.on hb)
  replace F7 := hide (F7.out.on hb)
  replace B4 : Hid (Below w3.heap.size w3 w6) := bt B4.out hb
  replace T7 := hide (T7.out.below hb)
  clear hb
  have T8 := hide hs
  obtain ⟨e6, f6, rfl⟩ := hs.form
  clear hs
  go_wp2_with fail
  refine (eqRts_same _ _ _ _ V _ T8.out.at (S4.out.below B4.out)).mono ?_
  rintro e w7 ⟨rfl, hb⟩
  have hz7 : w6.heap.size ≤ w7.heap.size := hb.size
  replace HB : Hid (Below w.heap.size w w7) := bt HB.out hb
  replace F0 := hide (F0.out.on hb)
  replace F7 := hide (F7.out.on hb)
  replace B4 : Hid (Below w3.heap.size w3 w7) := bt B4.out hb
  replace T7 := hide (T7.out.below hb)
  replace T8 := hide (T8.out.below hb)
  clear hb
  have K := hide (H0.out.below HB.out)
  have KP : Hid (∀ W, Below w7.heap.size w7 W → W.rangeAt w4.heap.size 0 cs7 ∧ W.rangeAt w.heap.size 0 cs0) := fun W hW => ⟨(F7.out.on hW).range rfl, (F0.out.on hW).range rfl⟩
  go_wp2
  refine wp_region_held_drew (S := fun W => W.rangeAt w4.heap.size 0 cs7 ∧ W.rangeAt w.heap.size 0 cs0) (by kernel_rfl) (KP.out _ ((Below.refl _ _).drew)) (fun hHeld => ?_)
  refine wpAnyH_take (i := 0) rfl (by kernel_rfl) (by kernel_rfl) (by kernel_rfl) (fun _ _ _ h => h) (yieldsIf_load_mid (by rfl) 45 (.tmp 5) rfl w4.heap.size 0 rfl cs7 _ (fun _ h => h.1) Try.underlying45 rfl HZcs7.out) hHeld ?_
  simp only [Act.put, List.setIfInBounds_toArray]
  refine wpAnyH_take (i := 1) rfl (by kernel_rfl) (by kernel_rfl) (by kernel_rfl) (fun _ _ _ h => h) (yieldsIf_load_mid (by rfl) 37 (.tmp 1) rfl w.heap.size 0 rfl cs0 _ (fun _ h => h.2) Try.underlying37 rfl HZ0.out) hHeld ?_
  simp only [Act.put]
  refine wpAnyH_ready (rs := [2]) (by kernel_rfl) (by simp) ?_
  refine AllReadyH.cons rfl (fun KK hK => ?_) AllReadyH.nil
  go_simp
  refine (toRr_c 0 _ U _ (K.out.below ((Below.refl _ _).drew)) M0.out).mono ?_
  rintro e ve ⟨zs, rfl, hbe, hse⟩
  have CE : Hid (Below w7.heap.size w7 ve) := bt ((Below.refl _ _).drew) hbe
  have SE := hide hse
  clear hse hbe
  try go_wp2_with fail
  refine hK.out _ _ (KP.out _ CE.out) (fun hHeld => ?_)
  clear hK KK
  try simp only [Act.put, List.setIfInBounds_toArray, List.set_cons_zero, List.set_cons_succ]
  refine wpAnyH_ready (rs := [3]) (by kernel_rfl) (by simp) ?_
  refine AllReadyH.cons rfl (fun KK hK => ?_) AllReadyH.nil
  go_simp
  refine (eqRr_c _ _ _ _ U _ (T7.out.at.below CE.out) SE.out).mono ?_
  rintro e vf ⟨rfl, hbf⟩
  have CF : Hid (Below w7.heap.size w7 vf) := bt CE.out hbf
  clear hbf
  try go_wp2_with fail
  refine hK.out _ _ (KP.out _ CF.out) (fun hHeld => ?_)
  clear hK KK
  try simp only [Act.put, List.setIfInBounds_toArray, List.set_cons_zero, List.set_cons_succ]
  refine wpAnyH_take (i := 4) (v := .bool false) rfl (by kernel_rfl) (by kernel_rfl) (by kernel_rfl) (fun _ _ _ h => h) (Or.inl ⟨by rfl, fun W hW => by go_simp⟩) hHeld ?_
  simp only [Act.put, List.setIfInBounds_toArray]
  refine wpAnyH_done (by kernel_rfl) ?_ _
  have hb := CF.out
  clear CF CE SE K KP
  have hz8 : w7.heap.size ≤ vf.heap.size := hb.size
  replace HB : Hid (Below w.heap.size w vf) := bt HB.out hb
  replace F0 := hide (F0.out.on hb)
  replace F7 := hide (F7.out.on hb)
  replace B4 : Hid (Below w3.heap.size w3 vf) := bt B4.out hb
  replace T7 := hide (T7.out.below hb)
  replace T8 := hide (T8.out.below hb)
  clear hb
  obtain ⟨-, -, -, -, -, -, k7a, k7b⟩ := kR_bd M0.out (k := 1) (by omega) (by omega)
  go_wp2_with (first | (with_reducible refine wpList_load_mid (by with_reducible rfl) 45 (.tmp 5) (by with_reducible rfl) w4.heap.size 0 (by with_unfolding_all rfl) cs7 _ (F7.out.range rfl) Try.underlying45 (by with_unfolding_all rfl) HZcs7.out ?_))
  refine (markRr_any w3.heap.size w4.heap.size _ U 1 _ T7.out (by omega) M0.out (by omega) (by omega)).mono ?_
  rintro e w9 ⟨rfl, ht, ho⟩
  have hz9 : vf.heap.size ≤ w9.heap.size := ht.size
  replace HB : Hid (Below w.heap.size w w9) := HB.out.trans ((ht.under (by omega)).mono (by omega))
  replace F0 := hide (F0.out.tch2 ht (by omega))
  replace F7 := hide (F7.out.tch2 ht (by omega))
  replace B4 : Hid (Below w3.heap.size w3 w9) := B4.out.trans ((ht.under (by omega)).mono (by omega))
  replace T8 := hide (T8.out.touch ht (by omega))
  clear ht
  clear T7 ho
  obtain ⟨q7, hq7⟩ : ∃ q : Int, q = kR7 1 U := ⟨_, rfl⟩
  rw [← hq7] at k7a
  rw [← hq7]
  have n7 : decide (q7 < 0) = false := by simp; omega
  clear hq7 k7b
  go_wp2_with fail
  clear n7
  refine (eqRts_same _ _ _ _ V _ T8.out.at (S4.out.below B4.out)).mono ?_
  rintro e w10 ⟨rfl, hb⟩
  have hz10 : w9.heap.size ≤ w10.heap.size := hb.size
  replace HB : Hid (Below w.heap.size w w10) := bt HB.out hb
  replace F0 := hide (F0.out.on hb)
  replace F7 := hide (F7.out.on hb)
  replace B4 : Hid (Below w3.heap.size w3 w10) := bt B4.out hb
  replace T8 := hide (T8.out.below hb)
  clear hb
  go_wp2_with fail
  refine (markRts_any w5.heap.size w6.heap.size _ V 1 _ T8.out (by omega) (by omega)).mono ?_
  rintro e w11 ⟨rfl, ht, ho⟩
  have hz11 : w10.heap.size ≤ w11.heap.size := ht.size
  replace HB : Hid (Below w.heap.size w w11) := HB.out.trans ((ht.under (by omega)).mono (by omega))
  replace F0 := hide (F0.out.tch2 ht (by omega))
  replace F7 := hide (F7.out.tch2 ht (by omega))
  replace B4 : Hid (Below w3.heap.size w3 w11) := B4.out.trans ((ht.under (by omega)).mono (by omega))
  clear ht
  clear T8
  have T8 := hide ho
  clear ho
  have n8 : decide ((1 + (V.length : Int)) < 0) = false := by simp; omega
  go_wp2_with fail
  refine (heldRts_any _ _ V.length 1 _ T8.out.at (by omega) (by omega)).mono ?_
  rintro e w12 ⟨rfl, hb⟩
  have hz12 : w11.heap.size ≤ w12.heap.size := hb.size
  replace HB : Hid (Below w.heap.size w w12) := bt HB.out hb
  replace F0 := hide (F0.out.on hb)
  replace F7 := hide (F7.out.on hb)
  replace B4 : Hid (Below w3.heap.size w3 w12) := bt B4.out hb
  replace T8 := hide (T8.out.below hb)
  clear hb
  go_wp2_with (first | (with_reducible refine wpList_load_mid (by with_reducible rfl) 37 (.tmp 1) (by with_reducible rfl) w.heap.size 0 (by with_unfolding_all rfl) cs0 _ (F0.out.range rfl) Try.underlying37 (by with_unfolding_all rfl) HZ0.out ?_))
  refine (toRr_c 0 _ U _ (H0.out.below HB.out) M0.out).mono ?_
  rintro e w13 ⟨ys, rfl, hb, hs⟩
  have hz13 : w12.heap.size ≤ w13.heap.size := hb.size
  replace HB : Hid (Below w.heap.size w w13) := bt HB.out hb
  replace F0 := hide (F0.out.on hb)
  replace F7 := hide (F7.out.on hb)
  replace B4 : Hid (Below w3.heap.size w3 w13) := bt B4.out hb
  replace T8 := hide (T8.out.below hb)
  clear hb
  have SY := hide (hs.mono (Nat.zero_le _))
  clear hs
  go_wp2_with fail
  refine (HIM.out _ _ SY.out).mono ?_
  rintro e w14 ⟨v12, rfl, hb, hs⟩
  have hz14 : w13.heap.size ≤ w14.heap.size := hb.size
  replace HB : Hid (Below w.heap.size w w14) := bt HB.out hb
  replace F0 := hide (F0.out.on hb)
  replace F7 := hide (F7.out.on hb)
  replace B4 : Hid (Below w3.heap.size w3 w14) := bt B4.out hb
  replace T8 := hide (T8.out.below hb)
  clear hb
  have T12 := hide hs
  obtain ⟨e12, f12, rfl⟩ := hs.form
  clear SY hs
  go_wp2_with fail
  refine (eqRts_same _ _ _ _ V _ T12.out.at (S4.out.below B4.out)).mono ?_
  rintro e w15 ⟨rfl, hb⟩
  have hz15 : w14.heap.size ≤ w15.heap.size := hb.size
  replace HB : Hid (Below w.heap.size w w15) := bt HB.out hb
  replace F0 := hide (F0.out.on hb)
  replace F7 := hide (F7.out.on hb)
  replace B4 : Hid (Below w3.heap.size w3 w15) := bt B4.out hb
  replace T8 := hide (T8.out.below hb)
  replace T12 := hide (T12.out.below hb)
  clear hb
  go_wp2_with fail
  refine (heldRts_any _ _ V.length 1 _ T8.out.at (by omega) (by omega)).mono ?_
  rintro e w16 ⟨rfl, hb⟩
  have hz16 : w15.heap.size ≤ w16.heap.size := hb.size
  replace HB : Hid (Below w.heap.size w w16) := bt HB.out hb
  replace F0 := hide (F0.out.on hb)
  replace F7 := hide (F7.out.on hb)
  replace B4 : Hid (Below w3.heap.size w3 w16) := bt B4.out hb
  replace T8 := hide (T8.out.below hb)
  replace T12 := hide (T12.out.below hb)
  clear hb
  go_wp2
  go_ret
  exact ⟨rfl, HB.out⟩
end Go.Proofs.Ytlednecohppljaa
