
import Derived.Test.YtleiaohoocgnlaaRRt
import Derived.Test.YtleiaohoocgnlaaRH
import Derived.Deep.RegionHeld3
namespace Go.Proofs.Ytleiaohoocgnlaa
open Go.RowKit Go.Deep

theorem sizeRrL : (Try.prog.info? 47).map (·.size) = some 18 := by kernel_rfl

set_option maxRecDepth 20000 in
set_option maxHeartbeats 8000000 in
theorem law_valid (cs : List Value) (U : Rr) (ans : Bool) (w : World) (h0 : RrC 0 w cs U)
    (hspec : RrSmall U → ∀ (cs : List Value) (w : World), RrC 0 w cs U → Calls Try.prog 17 #[.agg cs.toArray] w fun e w' => e = .returned (.bool ans) ∧ Below w.heap.size w w')
    (himp : RrSmall U → ∀ (cs : List Value) (w : World), RrC 0 w cs U → Calls Try.prog 19 #[.agg cs.toArray] w fun e w' => e = .returned (.bool ans) ∧ Below w.heap.size w w') :
    Calls Try.prog 5 #[.agg cs.toArray] w fun e w' => e = .returned (.bool true) ∧ Below w.heap.size w w' := by
  have H0 := hide h0
  have HIMP := hide himp
  have HSPEC := hide hspec
  have HZ : Hid ((Try.prog.info? 47).map (·.size) = some cs.length) := by unfold Hid; rw [h0.len]; exact sizeRrL
  clear himp hspec h0
  go_enter Try.func5, Try.ntmps5
  obtain ⟨Wa, hWa⟩ : ∃ Wa, Wa = w.alloc (.cells cs.toArray 47) := ⟨_, rfl⟩
  have HB : Hid (Below w.heap.size w Wa) := by unfold Hid; rw [hWa]; exact (one_al w _)
  have F0 : Hid (Box Wa w.heap.size cs.toArray) := by unfold Hid; rw [hWa]; exact (Box.new _ _ _ _ rfl)
  have HR : Hid (World.rangeAt (w.alloc (.cells cs.toArray 47)) w.heap.size 0 cs) := by unfold Hid; rw [← hWa]; exact F0.out.range rfl
  have HWA := hide hWa
  clear hWa
  go_wp2_with (refine wpList_load_mid rfl 47 (.tmp 1) rfl w.heap.size 0 rfl cs _ HR.out Try.underlying47 rfl HZ.out ?_)
  clear HR
  rw [← HWA.out]
  clear HWA
  refine (szRr_c 0 _ U _ _ (by omega) (by omega) (H0.out.below HB.out)).mono ?_
  rintro e w1 ⟨q0, rfl, hb, r0a, r0b, r0c⟩
  replace HB : Hid (Below w.heap.size w w1) := bt HB.out hb
  replace F0 := hide (F0.out.on hb)
  have HQ := hide r0c
  clear hb r0c
  by_cases hneg0 : q0 < 0
  · go_wp2
    go_ret
    exact ⟨rfl, HB.out⟩
  have M0 : Hid (RrSmall U) := HQ.out (by omega)
  clear HQ r0a r0b
  have HR := hide (F0.out.range (l := cs) rfl)
  go_wp2_with (refine wpList_load_mid rfl 47 (.tmp 1) rfl w.heap.size 0 rfl cs _ HR.out Try.underlying47 rfl HZ.out ?_)
  clear HR
  clear hneg0
  refine (toRr_c 0 _ U _ (H0.out.below HB.out) M0.out).mono ?_
  rintro e v0 ⟨xs0, rfl, hb0, hs0⟩
  have C0 : Hid (Below w1.heap.size w1 v0) := hb0
  have S0_0 := hide (hs0.mono (Nat.zero_le _))
  clear hs0 hb0
  go_wp2_with fail
  refine (HSPEC.out M0.out _ _ S0_0.out).mono ?_
  rintro e vz ⟨rfl, hbz⟩
  have CZ : Hid (Below w1.heap.size w1 vz) := bt C0.out hbz
  replace F0 := hide (F0.out.on CZ.out)
  replace HB : Hid (Below w.heap.size w vz) := bt HB.out CZ.out
  clear CZ C0 S0_0 hbz
  have HR := hide (F0.out.range (l := cs) rfl)
  go_wp2_with (refine wpList_load_mid rfl 47 (.tmp 1) rfl w.heap.size 0 rfl cs _ HR.out Try.underlying47 rfl HZ.out ?_)
  clear HR
  refine (toRr_c 0 _ U _ (H0.out.below HB.out) M0.out).mono ?_
  rintro e u0 ⟨ys, rfl, hb, hs⟩
  replace HB : Hid (Below w.heap.size w u0) := bt HB.out hb
  replace F0 := hide (F0.out.on hb)
  have S0 := hide (hs.mono (Nat.zero_le _))
  have h18 : ys.toArray.size = 18 := by simpa using hs.len
  have HZY : Hid ((Try.prog.info? 53).map (·.size) = some ys.length) := by unfold Hid; rw [hs.len]; exact sizeRr
  have HSA : Hid ((Try.prog.info? 53).map (·.size) = some ys.toArray.size) := by unfold Hid; rw [h18]; exact sizeRr
  have HON : Hid (ys.toArray.all (·.oneCell') = true) := hs.one
  have H18 := hide h18
  clear hb hs h18
  obtain ⟨Wn, hWn⟩ : ∃ Wn, Wn = u0.alloc (.cells #[.int .i64 0, .int .i64 0, .bool false, .int .i64 0, .int .i64 0, .slice none 0 0, .int .i64 0, .int .i64 0, .slice none 0 0, .slice none 0 0, .slice none 0 0, .bool false, .bool false, .int .i64 0, .slice none 0 0, .slice none 0 0, .slice none 0 0, .int .i64 0] 53) := ⟨_, rfl⟩
  have BN : Hid (Box Wn u0.heap.size #[.int .i64 0, .int .i64 0, .bool false, .int .i64 0, .int .i64 0, .slice none 0 0, .int .i64 0, .int .i64 0, .slice none 0 0, .slice none 0 0, .slice none 0 0, .bool false, .bool false, .int .i64 0, .slice none 0 0, .slice none 0 0, .slice none 0 0, .int .i64 0]) := by unfold Hid; rw [hWn]; exact Box.new _ _ _ _ rfl
  have HBN : Hid (Below u0.heap.size u0 Wn) := by unfold Hid; rw [hWn]; exact one_al _ _
  have HTH : Hid (World.there (u0.alloc (.cells #[.int .i64 0, .int .i64 0, .bool false, .int .i64 0, .int .i64 0, .slice none 0 0, .int .i64 0, .int .i64 0, .slice none 0 0, .slice none 0 0, .slice none 0 0, .bool false, .bool false, .int .i64 0, .slice none 0 0, .slice none 0 0, .slice none 0 0, .int .i64 0] 53)) u0.heap.size 0 ys.toArray.size) := by unfold Hid; rw [← hWn, H18.out]; exact BN.out.there rfl
  have HWN := hide hWn
  clear hWn
  go_wp2_with (refine wpList_store_mid rfl 53 (.tmp 5) (.tmp 16) rfl u0.heap.size 0 ys.toArray rfl rfl HTH.out HSA.out HON.out ?_; refine Hid.out ?_)
  rw [← HWN.out]
  clear HTH HWN
  obtain ⟨W0, hW0⟩ : ∃ W0, W0 = Wn.setCells u0.heap.size 0 ys.toArray.toList := ⟨_, rfl⟩
  have hbx : Below u0.heap.size u0 W0 := by rw [hW0]; exact Below.sets (Nat.le_refl _) _ _ HBN.out
  have X0 : Hid (Box W0 u0.heap.size ys.toArray) := by unfold Hid; rw [hW0]; exact BN.out.full (by rw [H18.out]; rfl)
  rw [← hW0]
  refine hide ?_
  replace HB : Hid (Below w.heap.size w W0) := bt HB.out hbx
  replace F0 := hide (F0.out.on hbx)
  replace S0 := hide (S0.out.below hbx)
  clear hW0 hbx BN HBN
  generalize hbeta : u0.heap.size = β0 at *
  have HR := hide (X0.out.range (l := ys) rfl)
  go_wp2_with (refine wpList_load_mid rfl 53 (.tmp 5) rfl β0 0 rfl ys _ HR.out Try.underlying53 rfl HZY.out ?_)
  clear HR
  refine (HIMP.out M0.out _ _ S0.out).mono ?_
  rintro e wz ⟨rfl, hb⟩
  replace HB : Hid (Below w.heap.size w wz) := bt HB.out hb
  replace F0 := hide (F0.out.on hb)
  replace X0 := hide (X0.out.on hb)
  replace S0 := hide (S0.out.below hb)
  clear hb
  have K := hide (H0.out.below HB.out)
  have KP : Hid (∀ W, Below wz.heap.size wz W → W.rangeAt β0 0 ys ∧ W.rangeAt w.heap.size 0 cs) := fun W hW => ⟨(X0.out.on hW).range rfl, (F0.out.on hW).range rfl⟩
  go_wp2
  refine wp_region_held_drew (S := fun W => W.rangeAt β0 0 ys ∧ W.rangeAt w.heap.size 0 cs) (by kernel_rfl) (KP.out _ ((Below.refl _ _).drew)) (fun hHeld => ?_)
  refine wpAnyH_take (i := 0) rfl (by kernel_rfl) (by kernel_rfl) (by kernel_rfl) (fun _ _ _ h => h) (yieldsIf_load_mid (by rfl) 53 (.tmp 5) rfl β0 0 rfl ys _ (fun _ h => h.1) Try.underlying53 rfl HZY.out) hHeld ?_
  simp only [Act.put, List.setIfInBounds_toArray]
  refine wpAnyH_take (i := 1) rfl (by kernel_rfl) (by kernel_rfl) (by kernel_rfl) (fun _ _ _ h => h) (yieldsIf_load_mid (by rfl) 47 (.tmp 1) rfl w.heap.size 0 rfl cs _ (fun _ h => h.2) Try.underlying47 rfl HZ.out) hHeld ?_
  simp only [Act.put]
  refine wpAnyH_ready (rs := [2]) (by kernel_rfl) (by simp) ?_
  refine AllReadyH.cons rfl (fun KK hK => ?_) AllReadyH.nil
  go_simp
  refine (toRr_c 0 _ U _ (K.out.below ((Below.refl _ _).drew)) M0.out).mono ?_
  rintro e ve ⟨zs, rfl, hbe, hse⟩
  have CE : Hid (Below wz.heap.size wz ve) := bt ((Below.refl _ _).drew) hbe
  have SE := hide hse
  clear hse hbe
  try go_wp2_with fail
  refine hK.out _ _ (KP.out _ CE.out) (fun hHeld => ?_)
  clear hK KK
  try simp only [Act.put, List.setIfInBounds_toArray, List.set_cons_zero, List.set_cons_succ]
  refine wpAnyH_ready (rs := [3]) (by kernel_rfl) (by simp) ?_
  refine AllReadyH.cons rfl (fun KK hK => ?_) AllReadyH.nil
  go_simp
  refine (eqRr_c _ _ _ _ U _ (S0.out.below CE.out) SE.out).mono ?_
  rintro e vf ⟨rfl, hbf⟩
  have CF : Hid (Below wz.heap.size wz vf) := bt CE.out hbf
  clear hbf
  try go_wp2_with fail
  refine hK.out _ _ (KP.out _ CF.out) (fun hHeld => ?_)
  clear hK KK
  try simp only [Act.put, List.setIfInBounds_toArray, List.set_cons_zero, List.set_cons_succ]
  refine wpAnyH_take (i := 4) (v := .bool false) rfl (by kernel_rfl) (by kernel_rfl) (by kernel_rfl) (fun _ _ _ h => h) (Or.inl ⟨by rfl, fun W hW => by go_simp⟩) hHeld ?_
  simp only [Act.put, List.setIfInBounds_toArray]
  refine wpAnyH_done (by kernel_rfl) ?_ _
  replace HB : Hid (Below w.heap.size w vf) := bt HB.out CF.out
  go_wp2
  go_ret
  exact ⟨rfl, HB.out⟩
end Go.Proofs.Ytleiaohoocgnlaa
