import Derived.Test.YtmaagbnjpdijnaaYHGB
import Derived.Test.YtmaagbnjpdijnaaYHF2
import Derived.Test.YtmaagbnjpdijnaaYHL0
import Derived.Deep.RegionHeld3
import Derived.Test.YtmaagbnjpdijnaaYDA
import Derived.Test.YtmaagbnjpdijnaaYHO0
import Derived.Test.YtmaagbnjpdijnaaYHG2
import Derived.Test.YtmaagbnjpdijnaaYHG1
import Derived.Test.YtmaagbnjpdijnaaYHG0
import Derived.Test.YtmaagbnjpdijnaaYA1
namespace Go.Proofs.Ytmaagbnjpdijnaa
open Go.RowKit Go.Deep

theorem hl_sizeI : (Try.prog.info? 25).map (·.size) = some 2 := by kernel_rfl
theorem hl_sizeH : (Try.prog.info? 35).map (·.size) = some 2 := by kernel_rfl
theorem hl_sizeB : (Try.prog.info? 31).map (·.size) = some 3 := by kernel_rfl
theorem hl_szAH {cs : List Value} (h : cs.length = 2) : (Try.prog.info? 35).map (·.size) = some cs.toArray.size := by rw [List.size_toArray, h]; exact hl_sizeH
def hl_zH : List Value := [.slice none 0 0, .slice none 0 0]
theorem hl_szAB {cs : List Value} (h : cs.length = 3) : (Try.prog.info? 31).map (·.size) = some cs.toArray.size := by rw [List.size_toArray, h]; exact hl_sizeB
def hl_zB : List Value := [.slice none 0 0, .slice none 0 0, .slice none 0 0]

set_option maxRecDepth 20000 in
set_option maxHeartbeats 16000000 in
theorem law_hlaw (cs0 : List Value) (U : Ho) (w : World) (h0 : HoC 0 w cs0 U) :
    Calls Try.prog 3 #[.agg cs0.toArray] w fun e w' => e = .returned (.bool true) ∧ Below w.heap.size w w' := by
  have H0 := hide h0
  have HZcs0 : Hid ((Try.prog.info? 25).map (·.size) = some cs0.length) := by unfold Hid; rw [h0.len]; exact hl_sizeI
  have HTNH : Hid (∀ (X : World) (cs : List Value), cs.length = 2 → (X.alloc (.cells hl_zH.toArray 35)).there X.heap.size 0 cs.toArray.size) := fun X cs h => by rw [show cs.toArray.size = 2 from h]; exact there_made _ _ _ _ rfl
  have HBXH : Hid (∀ (X : World) (cs : List Value), cs.length = 2 → Box ((X.alloc (.cells hl_zH.toArray 35)).setCells X.heap.size 0 cs.toArray.toList) X.heap.size cs.toArray) := fun X cs h => (Box.new _ _ _ _ rfl).full (by rw [show cs.toArray.size = 2 from h]; rfl)
  have HTNB : Hid (∀ (X : World) (cs : List Value), cs.length = 3 → (X.alloc (.cells hl_zB.toArray 31)).there X.heap.size 0 cs.toArray.size) := fun X cs h => by rw [show cs.toArray.size = 3 from h]; exact there_made _ _ _ _ rfl
  have HBXB : Hid (∀ (X : World) (cs : List Value), cs.length = 3 → Box ((X.alloc (.cells hl_zB.toArray 31)).setCells X.heap.size 0 cs.toArray.toList) X.heap.size cs.toArray) := fun X cs h => (Box.new _ _ _ _ rfl).full (by rw [show cs.toArray.size = 3 from h]; rfl)
  clear h0
  go_enter Try.func3, Try.ntmps3
  have HR0 : Hid (World.rangeAt (w.alloc (.cells cs0.toArray 25)) w.heap.size 0 cs0) := (Box.new _ _ _ _ rfl).range rfl
  go_wp2_with (with_reducible refine wpList_load_mid (by with_reducible rfl) 25 (.tmp 1) (by with_reducible rfl) w.heap.size 0 (by with_unfolding_all rfl) cs0 _ HR0.out Try.underlying25 (by with_unfolding_all rfl) HZcs0.out ?_)
  generalize hWa : w.alloc _ = w0
  have HB : Hid (Below w.heap.size w w0) := by unfold Hid; rw [← hWa]; exact one_al w _
  have F0 : Hid (Box w0 w.heap.size cs0.toArray) := by unfold Hid; rw [← hWa]; exact Box.new _ _ _ _ rfl
  have hs0 : w.heap.size < w0.heap.size := F0.out.lt
  clear hWa HR0
  refine (szHo_c 0 _ U _ _ (by omega) (by omega) (H0.out.below HB.out)).mono ?_
  rintro e w1 ⟨q0, rfl, hb, r0a, r0b, r0c⟩
  have hz1 : w0.heap.size ≤ w1.heap.size := hb.size
  replace HB : Hid (Below w.heap.size w w1) := bt HB.out hb
  replace F0 := hide (F0.out.on hb)
  clear hb
  have HQ := hide r0c
  clear r0c
  by_cases hneg0 : q0 < 0
  · go_wp2
    go_ret
    exact ⟨rfl, HB.out⟩
  have M0 : Hid (HoSmall U) := HQ.out (by omega)
  have MV := hide (hall_few M0.out.1)
  clear HQ r0a r0b
  go_wp2_with (first | (with_reducible refine wpList_load_mid (by with_reducible rfl) 25 (.tmp 1) (by with_reducible rfl) w.heap.size 0 (by with_unfolding_all rfl) cs0 _ (F0.out.range rfl) Try.underlying25 (by with_unfolding_all rfl) HZcs0.out ?_))
  clear hneg0
  refine (toHo_c 0 _ U _ (H0.out.below HB.out) M0.out).mono ?_
  rintro e w2 ⟨xs, rfl, hb, hs⟩
  have hz2 : w1.heap.size ≤ w2.heap.size := hb.size
  replace HB : Hid (Below w.heap.size w w2) := bt HB.out hb
  replace F0 := hide (F0.out.on hb)
  clear hb
  have SX := hide (hs.mono (Nat.zero_le _))
  clear hs
  go_wp2_with fail
  refine (specHLaw_any _ U _ SX.out M0.out).mono ?_
  rintro e w3 ⟨cs6, rfl, hb, hs⟩
  have hz3 : w2.heap.size ≤ w3.heap.size := hb.size
  replace HB : Hid (Below w.heap.size w w3) := bt HB.out hb
  replace F0 := hide (F0.out.on hb)
  clear hb
  have S6 := hide hs
  clear SX
  have Lcs6 : Hid (cs6.length = 3) := hs.len
  have ONcs6 : Hid (cs6.toArray.all (·.oneCell') = true) := hs.one
  have HZcs6 : Hid ((Try.prog.info? 31).map (·.size) = some cs6.length) := by unfold Hid; rw [Lcs6.out]; exact hl_sizeB
  clear hs
  have B6 : Hid (Below w3.heap.size w3 w3) := Below.refl _ _
  go_wp2_with (with_reducible refine wpList_store_mid (by with_reducible rfl) 31 (.tmp 4) (.tmp 18) (by with_reducible rfl) w3.heap.size 0 cs6.toArray (by with_unfolding_all rfl) (by with_unfolding_all rfl) (HTNB.out _ _ Lcs6.out) (hl_szAB Lcs6.out) ONcs6.out ?_; refine Hid.out ?_)
  generalize hW : World.setCells _ _ _ _ = w4
  have F6n : Hid (Box w4 w3.heap.size cs6.toArray) := by unfold Hid; rw [← hW]; exact HBXB.out _ _ Lcs6.out
  have hb : Below w3.heap.size w3 w4 := by rw [← hW]; exact Below.sets (Nat.le_refl _) _ _ (one_al _ _)
  have hs4 : w3.heap.size < w4.heap.size := by have := F6n.out.lt; omega
  clear hW
  have hz4 : w3.heap.size ≤ w4.heap.size := hb.size
  replace HB : Hid (Below w.heap.size w w4) := bt HB.out hb
  replace F0 := hide (F0.out.on hb)
  replace B6 : Hid (Below w3.heap.size w3 w4) := bt B6.out hb
  clear hb
  have F6 := F6n
  clear F6n
  refine hide ?_
  go_wp2_with (first | (with_reducible refine wpList_load_mid (by with_reducible rfl) 25 (.tmp 1) (by with_reducible rfl) w.heap.size 0 (by with_unfolding_all rfl) cs0 _ (F0.out.range rfl) Try.underlying25 (by with_unfolding_all rfl) HZcs0.out ?_))
  refine (toHoO_any 0 _ U _ (H0.out.below HB.out) M0.out).mono ?_
  rintro e w5 ⟨cs7, rfl, hb, hs⟩
  have hz5 : w4.heap.size ≤ w5.heap.size := hb.size
  replace HB : Hid (Below w.heap.size w w5) := bt HB.out hb
  replace F0 := hide (F0.out.on hb)
  replace F6 := hide (F6.out.on hb)
  replace B6 : Hid (Below w3.heap.size w3 w5) := bt B6.out hb
  clear hb
  have T7 := hide hs
  have Lcs7 : Hid (cs7.length = 2) := hs.at.len
  have ONcs7 : Hid (cs7.toArray.all (·.oneCell') = true) := hs.at.one
  have HZcs7 : Hid ((Try.prog.info? 35).map (·.size) = some cs7.length) := by unfold Hid; rw [Lcs7.out]; exact hl_sizeH
  clear hs
  go_wp2_with (with_reducible refine wpList_store_mid (by with_reducible rfl) 35 (.tmp 5) (.tmp 20) (by with_reducible rfl) w5.heap.size 0 cs7.toArray (by with_unfolding_all rfl) (by with_unfolding_all rfl) (HTNH.out _ _ Lcs7.out) (hl_szAH Lcs7.out) ONcs7.out ?_; refine Hid.out ?_)
  generalize hW : World.setCells _ _ _ _ = w6
  have F7n : Hid (Box w6 w5.heap.size cs7.toArray) := by unfold Hid; rw [← hW]; exact HBXH.out _ _ Lcs7.out
  have hb : Below w5.heap.size w5 w6 := by rw [← hW]; exact Below.sets (Nat.le_refl _) _ _ (one_al _ _)
  have hs6 : w5.heap.size < w6.heap.size := by have := F7n.out.lt; omega
  clear hW
  have hz6 : w5.heap.size ≤ w6.heap.size := hb.size
  replace HB : Hid (Below w.heap.size w w6) := bt HB.out hb
  replace F0 := hide (F0.out.on hb)
  replace F6 := hide (F6.out.on hb)
  replace B6 : Hid (Below w3.heap.size w3 w6) := bt B6.out hb
  replace T7 := hide (T7.out.below hb)
  clear hb
  have F7 := F7n
  clear F7n
  refine hide ?_
  go_wp2_with (first | (with_reducible refine wpList_load_mid (by with_reducible rfl) 35 (.tmp 5) (by with_reducible rfl) w5.heap.size 0 (by with_unfolding_all rfl) cs7 _ (F7.out.range rfl) Try.underlying35 (by with_unfolding_all rfl) HZcs7.out ?_))
  refine (implHLaw_any _ U _ (T7.out.at.mono (Nat.zero_le _)) M0.out).mono ?_
  rintro e w7 ⟨cs8, rfl, hb, hs⟩
  have hz7 : w6.heap.size ≤ w7.heap.size := hb.size
  replace HB : Hid (Below w.heap.size w w7) := bt HB.out hb
  replace F0 := hide (F0.out.on hb)
  replace F6 := hide (F6.out.on hb)
  replace F7 := hide (F7.out.on hb)
  replace B6 : Hid (Below w3.heap.size w3 w7) := bt B6.out hb
  replace T7 := hide (T7.out.below hb)
  clear hb
  have T8 := hide hs
  have Lcs8 : Hid (cs8.length = 3) := hs.at.len
  have ONcs8 : Hid (cs8.toArray.all (·.oneCell') = true) := hs.at.one
  have HZcs8 : Hid ((Try.prog.info? 31).map (·.size) = some cs8.length) := by unfold Hid; rw [Lcs8.out]; exact hl_sizeB
  clear hs
  go_wp2_with (with_reducible refine wpList_store_mid (by with_reducible rfl) 31 (.tmp 6) (.tmp 22) (by with_reducible rfl) w7.heap.size 0 cs8.toArray (by with_unfolding_all rfl) (by with_unfolding_all rfl) (HTNB.out _ _ Lcs8.out) (hl_szAB Lcs8.out) ONcs8.out ?_; refine Hid.out ?_)
  generalize hW : World.setCells _ _ _ _ = w8
  have F8n : Hid (Box w8 w7.heap.size cs8.toArray) := by unfold Hid; rw [← hW]; exact HBXB.out _ _ Lcs8.out
  have hb : Below w7.heap.size w7 w8 := by rw [← hW]; exact Below.sets (Nat.le_refl _) _ _ (one_al _ _)
  have hs8 : w7.heap.size < w8.heap.size := by have := F8n.out.lt; omega
  clear hW
  have hz8 : w7.heap.size ≤ w8.heap.size := hb.size
  replace HB : Hid (Below w.heap.size w w8) := bt HB.out hb
  replace F0 := hide (F0.out.on hb)
  replace F6 := hide (F6.out.on hb)
  replace F7 := hide (F7.out.on hb)
  replace B6 : Hid (Below w3.heap.size w3 w8) := bt B6.out hb
  replace T7 := hide (T7.out.below hb)
  replace T8 := hide (T8.out.below hb)
  clear hb
  have F8 := F8n
  clear F8n
  refine hide ?_
  go_wp2_with (first | (with_reducible refine wpList_load_mid (by with_reducible rfl) 31 (.tmp 6) (by with_reducible rfl) w7.heap.size 0 (by with_unfolding_all rfl) cs8 _ (F8.out.range rfl) Try.underlying31 (by with_unfolding_all rfl) HZcs8.out ?_) | (with_reducible refine wpList_load_mid (by with_reducible rfl) 31 (.tmp 4) (by with_reducible rfl) w3.heap.size 0 (by with_unfolding_all rfl) cs6 _ (F6.out.range rfl) Try.underlying31 (by with_unfolding_all rfl) HZcs6.out ?_))
  refine (eqLw_c _ _ _ _ ⟨[hallS], [hallM], U.tm⟩ _ T8.out.at (S6.out.below B6.out)).mono ?_
  rintro e w9 ⟨rfl, hb⟩
  have hz9 : w8.heap.size ≤ w9.heap.size := hb.size
  replace HB : Hid (Below w.heap.size w w9) := bt HB.out hb
  replace F0 := hide (F0.out.on hb)
  replace F6 := hide (F6.out.on hb)
  replace F7 := hide (F7.out.on hb)
  replace F8 := hide (F8.out.on hb)
  replace B6 : Hid (Below w3.heap.size w3 w9) := bt B6.out hb
  replace T7 := hide (T7.out.below hb)
  replace T8 := hide (T8.out.below hb)
  clear hb
  have K := hide (H0.out.below HB.out)
  have KP : Hid (∀ W, Below w9.heap.size w9 W → W.rangeAt w5.heap.size 0 cs7 ∧ W.rangeAt w.heap.size 0 cs0) := fun W hW => ⟨(F7.out.on hW).range rfl, (F0.out.on hW).range rfl⟩
  go_wp2
  refine wp_region_held_drew (S := fun W => W.rangeAt w5.heap.size 0 cs7 ∧ W.rangeAt w.heap.size 0 cs0) (by kernel_rfl) (KP.out _ ((Below.refl _ _).drew)) (fun hHeld => ?_)
  refine wpAnyH_take (i := 0) rfl (by kernel_rfl) (by kernel_rfl) (by kernel_rfl) (fun _ _ _ h => h) (yieldsIf_load_mid (by rfl) 35 (.tmp 5) rfl w5.heap.size 0 rfl cs7 _ (fun _ h => h.1) Try.underlying35 rfl HZcs7.out) hHeld ?_
  simp only [Act.put, List.setIfInBounds_toArray]
  refine wpAnyH_take (i := 1) rfl (by kernel_rfl) (by kernel_rfl) (by kernel_rfl) (fun _ _ _ h => h) (yieldsIf_load_mid (by rfl) 25 (.tmp 1) rfl w.heap.size 0 rfl cs0 _ (fun _ h => h.2) Try.underlying25 rfl HZcs0.out) hHeld ?_
  simp only [Act.put]
  refine wpAnyH_ready (rs := [2]) (by kernel_rfl) (by simp) ?_
  refine AllReadyH.cons rfl (fun KK hK => ?_) AllReadyH.nil
  go_simp
  refine (toHo_c 0 _ U _ (K.out.below ((Below.refl _ _).drew)) M0.out).mono ?_
  rintro e ve ⟨zs, rfl, hbe, hse⟩
  have CE : Hid (Below w9.heap.size w9 ve) := bt ((Below.refl _ _).drew) hbe
  have SE := hide hse
  clear hse hbe
  try go_wp2_with fail
  refine hK.out _ _ (KP.out _ CE.out) (fun hHeld => ?_)
  clear hK KK
  try simp only [Act.put, List.setIfInBounds_toArray, List.set_cons_zero, List.set_cons_succ]
  refine wpAnyH_ready (rs := [3]) (by kernel_rfl) (by simp) ?_
  refine AllReadyH.cons rfl (fun KK hK => ?_) AllReadyH.nil
  go_simp
  refine (eqHo_c _ _ _ _ U _ (T7.out.at.below CE.out) SE.out).mono ?_
  rintro e vf ⟨rfl, hbf⟩
  have CF : Hid (Below w9.heap.size w9 vf) := bt CE.out hbf
  clear hbf
  try go_wp2_with fail
  refine hK.out _ _ (KP.out _ CF.out) (fun hHeld => ?_)
  clear hK KK
  try simp only [Act.put, List.setIfInBounds_toArray, List.set_cons_zero, List.set_cons_succ]
  refine wpAnyH_take (i := 4) (v := .bool false) rfl (by kernel_rfl) (by kernel_rfl) (by kernel_rfl) (fun _ _ _ h => h) (Or.inl ⟨by rfl, fun W hW => by go_simp⟩) hHeld ?_
  simp only [Act.put, List.setIfInBounds_toArray]
  refine wpAnyH_done (by kernel_rfl) ?_ _
  have hb := CF.out
  clear CF CE SE K KP
  have hz10 : w9.heap.size ≤ vf.heap.size := hb.size
  replace HB : Hid (Below w.heap.size w vf) := bt HB.out hb
  replace F0 := hide (F0.out.on hb)
  replace F6 := hide (F6.out.on hb)
  replace F7 := hide (F7.out.on hb)
  replace F8 := hide (F8.out.on hb)
  replace B6 : Hid (Below w3.heap.size w3 vf) := bt B6.out hb
  replace T7 := hide (T7.out.below hb)
  replace T8 := hide (T8.out.below hb)
  clear hb
  have k7a : 0 ≤ endHo 1 U := by unfold endHo; omega
  have k8a : 0 ≤ endLw 1 hallS [hallM] U.tm := by unfold endLw endSh; omega
  go_wp2_with (first | (with_reducible refine wpList_load_mid (by with_reducible rfl) 35 (.tmp 5) (by with_reducible rfl) w5.heap.size 0 (by with_unfolding_all rfl) cs7 _ (F7.out.range rfl) Try.underlying35 (by with_unfolding_all rfl) HZcs7.out ?_))
  refine (markHo_any w4.heap.size w5.heap.size _ U 1 _ T7.out M0.out (by omega) (by omega) (by omega)).mono ?_
  rintro e w11 ⟨rfl, ht⟩
  have hz11 : vf.heap.size ≤ w11.heap.size := ht.size
  replace HB : Hid (Below w.heap.size w w11) := HB.out.trans ((ht.under (by omega)).mono (by omega))
  replace F0 := hide (F0.out.touch ht (by omega))
  replace F6 := hide (F6.out.touch ht (by omega))
  replace F7 := hide (F7.out.touch ht (by omega))
  replace F8 := hide (F8.out.touch ht (by omega))
  replace B6 : Hid (Below w3.heap.size w3 w11) := B6.out.trans ((ht.under (by omega)).mono (by omega))
  replace T8 := hide (T8.out.touch ht (by omega))
  clear ht
  clear T7
  obtain ⟨q7, hq7⟩ : ∃ q : Int, q = endHo 1 U := ⟨_, rfl⟩
  rw [← hq7] at k7a
  rw [← hq7]
  have n7 : decide (q7 < 0) = false := by simp; omega
  clear hq7
  go_wp2_with (first | (with_reducible refine wpList_load_gd (by with_unfolding_all rfl) 31 (.tmp 6) (by with_reducible rfl) w7.heap.size 0 (by with_unfolding_all rfl) cs8 _ (F8.out.range rfl) Try.underlying31 (by with_unfolding_all rfl) HZcs8.out ?_) | (with_reducible refine wpList_load_gd (by with_unfolding_all rfl) 31 (.tmp 4) (by with_reducible rfl) w3.heap.size 0 (by with_unfolding_all rfl) cs6 _ (F6.out.range rfl) Try.underlying31 (by with_unfolding_all rfl) HZcs6.out ?_))
  clear n7
  refine (eqLw_c _ _ _ _ ⟨[hallS], [hallM], U.tm⟩ _ T8.out.at (S6.out.below B6.out)).mono ?_
  rintro e w12 ⟨rfl, hb⟩
  have hz12 : w11.heap.size ≤ w12.heap.size := hb.size
  replace HB : Hid (Below w.heap.size w w12) := bt HB.out hb
  replace F0 := hide (F0.out.on hb)
  replace F6 := hide (F6.out.on hb)
  replace F7 := hide (F7.out.on hb)
  replace F8 := hide (F8.out.on hb)
  replace B6 : Hid (Below w3.heap.size w3 w12) := bt B6.out hb
  replace T8 := hide (T8.out.below hb)
  clear hb
  go_wp2_with (first | (with_reducible refine wpList_load_mid (by with_reducible rfl) 31 (.tmp 6) (by with_reducible rfl) w7.heap.size 0 (by with_unfolding_all rfl) cs8 _ (F8.out.range rfl) Try.underlying31 (by with_unfolding_all rfl) HZcs8.out ?_))
  refine (markLw_any w6.heap.size w7.heap.size _ hallS [hallM] U.tm 1 _ T8.out MV.out (by omega) (by omega) (by omega)).mono ?_
  rintro e w13 ⟨rfl, ht, ho⟩
  have hz13 : w12.heap.size ≤ w13.heap.size := ht.size
  replace HB : Hid (Below w.heap.size w w13) := HB.out.trans ((ht.under (by omega)).mono (by omega))
  replace F0 := hide (F0.out.touch ht (by omega))
  replace F6 := hide (F6.out.touch ht (by omega))
  replace F7 := hide (F7.out.touch ht (by omega))
  replace F8 := hide (F8.out.touch ht (by omega))
  replace B6 : Hid (Below w3.heap.size w3 w13) := B6.out.trans ((ht.under (by omega)).mono (by omega))
  clear ht
  clear T8
  have T8 := hide ho
  clear ho
  obtain ⟨q8, hq8⟩ : ∃ q : Int, q = endLw 1 hallS [hallM] U.tm := ⟨_, rfl⟩
  rw [← hq8] at k8a
  rw [← hq8]
  have n8 : decide (q8 < 0) = false := by simp; omega
  go_wp2_with (first | (with_reducible refine wpList_load_mid (by with_reducible rfl) 31 (.tmp 6) (by with_reducible rfl) w7.heap.size 0 (by with_unfolding_all rfl) cs8 _ (F8.out.range rfl) Try.underlying31 (by with_unfolding_all rfl) HZcs8.out ?_))
  refine (heldLw_any w6.heap.size w7.heap.size _ hallS [hallM] U.tm 1 _ T8.out MV.out (by omega) (by omega)).mono ?_
  rintro e w14 ⟨rfl, hb⟩
  have hz14 : w13.heap.size ≤ w14.heap.size := hb.size
  replace HB : Hid (Below w.heap.size w w14) := bt HB.out hb
  replace F0 := hide (F0.out.on hb)
  replace F6 := hide (F6.out.on hb)
  replace F7 := hide (F7.out.on hb)
  replace F8 := hide (F8.out.on hb)
  replace B6 : Hid (Below w3.heap.size w3 w14) := bt B6.out hb
  replace T8 := hide (T8.out.below hb)
  clear hb
  rw [← hq8]
  go_wp2_with (first | (with_reducible refine wpList_load_mid (by with_reducible rfl) 25 (.tmp 1) (by with_reducible rfl) w.heap.size 0 (by with_unfolding_all rfl) cs0 _ (F0.out.range rfl) Try.underlying25 (by with_unfolding_all rfl) HZcs0.out ?_))
  refine (toHo_c 0 _ U _ (H0.out.below HB.out) M0.out).mono ?_
  rintro e w15 ⟨ys, rfl, hb, hs⟩
  have hz15 : w14.heap.size ≤ w15.heap.size := hb.size
  replace HB : Hid (Below w.heap.size w w15) := bt HB.out hb
  replace F0 := hide (F0.out.on hb)
  replace F6 := hide (F6.out.on hb)
  replace F7 := hide (F7.out.on hb)
  replace F8 := hide (F8.out.on hb)
  replace B6 : Hid (Below w3.heap.size w3 w15) := bt B6.out hb
  replace T8 := hide (T8.out.below hb)
  clear hb
  have SY := hide (hs.mono (Nat.zero_le _))
  clear hs
  go_wp2_with fail
  refine (implHLaw_any _ U _ SY.out M0.out).mono ?_
  rintro e w16 ⟨cs12, rfl, hb, hs⟩
  have hz16 : w15.heap.size ≤ w16.heap.size := hb.size
  replace HB : Hid (Below w.heap.size w w16) := bt HB.out hb
  replace F0 := hide (F0.out.on hb)
  replace F6 := hide (F6.out.on hb)
  replace F7 := hide (F7.out.on hb)
  replace F8 := hide (F8.out.on hb)
  replace B6 : Hid (Below w3.heap.size w3 w16) := bt B6.out hb
  replace T8 := hide (T8.out.below hb)
  clear hb
  have T12 := hide hs
  clear SY
  have Lcs12 : Hid (cs12.length = 3) := hs.at.len
  have ONcs12 : Hid (cs12.toArray.all (·.oneCell') = true) := hs.at.one
  have HZcs12 : Hid ((Try.prog.info? 31).map (·.size) = some cs12.length) := by unfold Hid; rw [Lcs12.out]; exact hl_sizeB
  clear hs
  go_wp2_with (with_reducible refine wpList_store_mid (by with_reducible rfl) 31 (.tmp 10) (.tmp 56) (by with_reducible rfl) w16.heap.size 0 cs12.toArray (by with_unfolding_all rfl) (by with_unfolding_all rfl) (HTNB.out _ _ Lcs12.out) (hl_szAB Lcs12.out) ONcs12.out ?_; refine Hid.out ?_)
  generalize hW : World.setCells _ _ _ _ = w17
  have F12n : Hid (Box w17 w16.heap.size cs12.toArray) := by unfold Hid; rw [← hW]; exact HBXB.out _ _ Lcs12.out
  have hb : Below w16.heap.size w16 w17 := by rw [← hW]; exact Below.sets (Nat.le_refl _) _ _ (one_al _ _)
  have hs17 : w16.heap.size < w17.heap.size := by have := F12n.out.lt; omega
  clear hW
  have hz17 : w16.heap.size ≤ w17.heap.size := hb.size
  replace HB : Hid (Below w.heap.size w w17) := bt HB.out hb
  replace F0 := hide (F0.out.on hb)
  replace F6 := hide (F6.out.on hb)
  replace F7 := hide (F7.out.on hb)
  replace F8 := hide (F8.out.on hb)
  replace B6 : Hid (Below w3.heap.size w3 w17) := bt B6.out hb
  replace T8 := hide (T8.out.below hb)
  replace T12 := hide (T12.out.below hb)
  clear hb
  have F12 := F12n
  clear F12n
  refine hide ?_
  go_wp2_with (first | (with_reducible refine wpList_load_mid (by with_reducible rfl) 31 (.tmp 10) (by with_reducible rfl) w16.heap.size 0 (by with_unfolding_all rfl) cs12 _ (F12.out.range rfl) Try.underlying31 (by with_unfolding_all rfl) HZcs12.out ?_) | (with_reducible refine wpList_load_mid (by with_reducible rfl) 31 (.tmp 4) (by with_reducible rfl) w3.heap.size 0 (by with_unfolding_all rfl) cs6 _ (F6.out.range rfl) Try.underlying31 (by with_unfolding_all rfl) HZcs6.out ?_))
  refine (eqLw_c _ _ _ _ ⟨[hallS], [hallM], U.tm⟩ _ T12.out.at (S6.out.below B6.out)).mono ?_
  rintro e w18 ⟨rfl, hb⟩
  have hz18 : w17.heap.size ≤ w18.heap.size := hb.size
  replace HB : Hid (Below w.heap.size w w18) := bt HB.out hb
  replace F0 := hide (F0.out.on hb)
  replace F6 := hide (F6.out.on hb)
  replace F7 := hide (F7.out.on hb)
  replace F8 := hide (F8.out.on hb)
  replace F12 := hide (F12.out.on hb)
  replace B6 : Hid (Below w3.heap.size w3 w18) := bt B6.out hb
  replace T8 := hide (T8.out.below hb)
  replace T12 := hide (T12.out.below hb)
  clear hb
  go_wp2_with (first | (with_reducible refine wpList_load_mid (by with_reducible rfl) 31 (.tmp 6) (by with_reducible rfl) w7.heap.size 0 (by with_unfolding_all rfl) cs8 _ (F8.out.range rfl) Try.underlying31 (by with_unfolding_all rfl) HZcs8.out ?_))
  refine (heldLw_any w6.heap.size w7.heap.size _ hallS [hallM] U.tm 1 _ T8.out MV.out (by omega) (by omega)).mono ?_
  rintro e w19 ⟨rfl, hb⟩
  have hz19 : w18.heap.size ≤ w19.heap.size := hb.size
  replace HB : Hid (Below w.heap.size w w19) := bt HB.out hb
  replace F0 := hide (F0.out.on hb)
  replace F6 := hide (F6.out.on hb)
  replace F7 := hide (F7.out.on hb)
  replace F8 := hide (F8.out.on hb)
  replace F12 := hide (F12.out.on hb)
  replace B6 : Hid (Below w3.heap.size w3 w19) := bt B6.out hb
  replace T8 := hide (T8.out.below hb)
  replace T12 := hide (T12.out.below hb)
  clear hb
  rw [← hq8]
  go_wp2
  go_ret
  exact ⟨rfl, HB.out⟩
end Go.Proofs.Ytmaagbnjpdijnaa

