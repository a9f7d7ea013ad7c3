
import Derived.Test.YtgnodlkdjpnmoaaHS2
import Derived.Deep.RegionHeld3
namespace Go.Proofs.Ytgnodlkdjpnmoaa
open Go.RowKit Go.Deep

set_option maxRecDepth 20000 in
set_option maxHeartbeats 8000000 in
theorem law_service (vv hv : Value) (kind nm team : ByteArray) (en : Bool) (ver : Int) (V Ho : List ByteArray) (old : Sv) (w : World)
    (hV : StrsAt w vv V) (hH : StrsAt w hv Ho) (s1 : kind.size ≤ maxLen) (s2 : nm.size ≤ maxLen) (s3 : team.size ≤ maxLen) (hz : SvSize old) :
    Calls Try.prog 3 #[.agg #[.string kind, .string nm, .string team, vv, .bool en, hv, .int .i64 ver], .agg (svL old).toArray] w fun e w' => e = .returned (.bool true) ∧ Below w.heap.size w w' := by
  have HV := hide hV
  have HH := hide hH
  have S1 := hide s1
  have S2 := hide s2
  have S3 := hide s3
  have HZ := hide hz
  obtain ⟨va, vcap, rfl⟩ := hV.form'
  obtain ⟨ha, hcap, rfl⟩ := hH.form'
  clear hV hH s1 s2 s3 hz
  go_enter Try.func3, Try.ntmps3
  go_wp2_with fail
  generalize hWa : (World.alloc (w.alloc _) _) = Wa
  have HB : Hid (Below w.heap.size w Wa) := by unfold Hid; rw [← hWa]; exact (one_al w _).alloc (by simp) _
  have FA : Hid (Box Wa w.heap.size #[.string kind, .string nm, .string team, .slice va V.length vcap, .bool en, .slice ha Ho.length hcap, .int .i64 ver]) := by unfold Hid; rw [← hWa]; exact (Box.new _ _ _ _ rfl).on (one_al _ _)
  have FB : Hid (Box Wa (w.heap.size + 1) #[.string old.nm, .int .i64 old.ve, .bool old.gn, .int .i64 old.im, .int .i64 old.wa, .int .i64 old.dn, .int .i64 old.ov, .int .i64 old.nx, .int .i64 old.pr, .int .i64 old.ls, .int .i64 old.ms, .int .i64 old.ld, .int .i64 old.cl]) := by unfold Hid; rw [← hWa]; exact Box.new _ _ _ _ (by simp)
  clear hWa
  refine (szObj_any kind nm team _ _ en ver V Ho _ _ (HV.out.below HB.out) (HH.out.below HB.out) (by omega) (by omega) S1.out S2.out S3.out).mono ?_
  rintro e w1 ⟨q, rfl, hb, hr0, hr1, hr2⟩
  replace HB : Hid (Below w.heap.size w w1) := bt HB.out hb
  replace FA := hide (FA.out.on hb)
  replace FB := hide (FB.out.on hb)
  have HQ := hide hr2
  clear hb hr2
  by_cases hneg : q < 0
  · go_wp2
    go_ret
    exact ⟨rfl, HB.out⟩
  have hVm : Hid (V.length ≤ 1048576) := by have := HQ.out (by omega); unfold Hid; omega
  have hHm : Hid (Ho.length ≤ 1048576) := by have := HQ.out (by omega); unfold Hid; omega
  clear HQ
  have g1 := FB.out.cell
  have gm := FB.out.lt
  go_wp2_with fail
  clear g1 gm
  refine (szSv_any old _ _ (by omega) (by omega) HZ.out).mono ?_
  rintro e w2 ⟨q2, rfl, hb, hq0, hq1⟩
  replace HB : Hid (Below w.heap.size w w2) := bt HB.out hb
  replace FA := hide (FA.out.on hb)
  replace FB := hide (FB.out.on hb)
  clear hb hr0 hr1 hneg
  by_cases hneg2 : q2 < 0
  · go_wp2
    go_ret
    exact ⟨rfl, HB.out⟩
  go_wp2
  clear hneg2 hq0 hq1
  obtain ⟨R, hR⟩ : ∃ R, hallSv nm en V old = R := ⟨_, rfl⟩
  have HR := hide hR
  clear hR
  have HRS : Hid (svL (hallSv nm en V old) = svL R) := by unfold Hid; rw [HR.out]
  have HV2 := hide (HV.out.below HB.out)
  have HH2 := hide (HH.out.below HB.out)
  have KP : Hid (∀ W, Below w2.heap.size w2 W → (∀ i, W.cell? ⟨w.heap.size, i, none⟩ = #[.string kind, .string nm, .string team, .slice va V.length vcap, .bool en, .slice ha Ho.length hcap, .int .i64 ver][i]?) ∧ (∀ i, W.cell? ⟨w.heap.size + 1, i, none⟩ = #[.string old.nm, .int .i64 old.ve, .bool old.gn, .int .i64 old.im, .int .i64 old.wa, .int .i64 old.dn, .int .i64 old.ov, .int .i64 old.nx, .int .i64 old.pr, .int .i64 old.ls, .int .i64 old.ms, .int .i64 old.ld, .int .i64 old.cl][i]?)) := fun W hW => ⟨(FA.out.on hW).cell, (FB.out.on hW).cell⟩
  go_cut [6] (fun p wc => ∃ β, p = .pointer (some ⟨β, 0, none⟩) ∧ Below w2.heap.size w2 wc ∧ Box wc β #[.string R.nm, .int .i64 R.ve, .bool R.gn, .int .i64 R.im, .int .i64 R.wa, .int .i64 R.dn, .int .i64 R.ov, .int .i64 R.nx, .int .i64 R.pr, .int .i64 R.ls, .int .i64 R.ms, .int .i64 R.ld, .int .i64 R.cl] ∧ w2.heap.size ≤ β)
  case first =>
    refine wp_region_held_drew (S := fun W => (∀ i, W.cell? ⟨w.heap.size, i, none⟩ = #[.string kind, .string nm, .string team, .slice va V.length vcap, .bool en, .slice ha Ho.length hcap, .int .i64 ver][i]?) ∧ (∀ i, W.cell? ⟨w.heap.size + 1, i, none⟩ = #[.string old.nm, .int .i64 old.ve, .bool old.gn, .int .i64 old.im, .int .i64 old.wa, .int .i64 old.dn, .int .i64 old.ov, .int .i64 old.nx, .int .i64 old.pr, .int .i64 old.ls, .int .i64 old.ms, .int .i64 old.ld, .int .i64 old.cl][i]?)) (by kernel_rfl) (KP.out _ ((Below.refl _ _).drew)) (fun hHeld => ?_)
    refine wpAnyH_take (i := 0) (v := .agg #[.string kind, .string nm, .string team, .slice va V.length vcap, .bool en, .slice ha Ho.length hcap, .int .i64 ver]) rfl (by kernel_rfl) (by kernel_rfl) (by kernel_rfl) (fun _ _ _ h => h) (Or.inl ⟨by rfl, fun W hW => by obtain ⟨hq, hp⟩ := hW; go_simp⟩) hHeld ?_
    try simp only [Act.put, List.getElem_toArray, List.getElem_cons_zero, List.setIfInBounds_toArray, List.set_cons_zero, List.set_cons_succ]
    refine wpAnyH_take (i := 2) (v := .agg #[.string old.nm, .int .i64 old.ve, .bool old.gn, .int .i64 old.im, .int .i64 old.wa, .int .i64 old.dn, .int .i64 old.ov, .int .i64 old.nx, .int .i64 old.pr, .int .i64 old.ls, .int .i64 old.ms, .int .i64 old.ld, .int .i64 old.cl]) rfl (by kernel_rfl) (by kernel_rfl) (by kernel_rfl) (fun _ _ _ h => h) (Or.inl ⟨by rfl, fun W hW => by obtain ⟨hq, hp⟩ := hW; go_simp⟩) hHeld ?_
    try simp only [Act.put, List.getElem_toArray, List.getElem_cons_succ, List.getElem_cons_zero, List.setIfInBounds_toArray, List.set_cons_zero, List.set_cons_succ]
    refine wpAnyH_ready (rs := [1, 5]) (by kernel_rfl) (by simp) ?_
    refine AllReadyH.cons rfl (fun KK hK => ?_) (AllReadyH.cons rfl (fun KK hK => ?_) AllReadyH.nil)
    ·
      go_simp
      refine (toObj_any kind nm team _ _ en ver V Ho _ (HV2.out.below ((Below.refl _ _).drew)) (HH2.out.below ((Below.refl _ _).drew)) hVm.out hHm.out).mono ?_
      rintro e v1 ⟨v5, h5, rfl, hb, hv5, _⟩
      have V5 := hide hv5.at
      clear hv5
      have CC : Hid (Below w2.heap.size w2 v1) := bt ((Below.refl _ _).drew) hb
      clear hb
      have hy1 := CC.out.size
      try go_wp2_with fail
      refine hK.out _ _ (KP.out _ CC.out) (fun hHeld => ?_)
      clear hK KK
      try simp only [Act.put, List.getElem_toArray, List.getElem_cons_succ, List.getElem_cons_zero, List.setIfInBounds_toArray, List.set_cons_zero, List.set_cons_succ]
      refine wpAnyH_ready (rs := [3, 5]) (by kernel_rfl) (by simp) ?_
      refine AllReadyH.cons rfl (fun KK hK => ?_) (AllReadyH.cons rfl (fun KK hK => ?_) AllReadyH.nil)
      ·
        go_simp
        refine (toSv_any old _).mono ?_
        rintro e v2 ⟨rfl, hb⟩
        try replace V5 := hide (V5.out.below hb)
        replace CC : Hid (Below w2.heap.size w2 v2) := bt CC.out hb
        clear hb
        have hy2 := CC.out.size
        try go_wp2_with fail
        refine hK.out _ _ (KP.out _ CC.out) (fun hHeld => ?_)
        clear hK KK
        try simp only [Act.put, List.getElem_toArray, List.getElem_cons_succ, List.getElem_cons_zero, List.setIfInBounds_toArray, List.set_cons_zero, List.set_cons_succ]
        refine wpAnyH_ready (rs := [4, 5]) (by kernel_rfl) (by simp) ?_
        refine AllReadyH.cons rfl (fun KK hK => ?_) (AllReadyH.cons rfl (fun KK hK => ?_) AllReadyH.nil)
        ·
          go_simp
          refine (specService_any kind nm team _ _ en ver V old _ V5.out).mono ?_
          rintro e v3 ⟨rfl, hb⟩
          rw [HRS.out]
          replace CC : Hid (Below w2.heap.size w2 v3) := bt CC.out hb
          clear hb
          have hy3 := CC.out.size
          try go_wp2_with fail
          refine hK.out _ _ (KP.out _ CC.out) (fun hHeld => ?_)
          clear hK KK
          try simp only [Act.put, List.getElem_toArray, List.getElem_cons_succ, List.getElem_cons_zero, List.setIfInBounds_toArray, List.set_cons_zero, List.set_cons_succ]
          refine wpAnyH_ready (rs := [5]) (by kernel_rfl) (by simp) ?_
          refine AllReadyH.cons rfl (fun KK hK => ?_) AllReadyH.nil
          go_simp
          obtain ⟨v4, hv'⟩ : ∃ vv, vv = v3.alloc (.cells #[.string ⟨#[]⟩, .int .i64 0, .bool false, .int .i64 0, .int .i64 0, .int .i64 0, .int .i64 0, .int .i64 0, .int .i64 0, .int .i64 0, .int .i64 0, .int .i64 0, .int .i64 0] 29) := ⟨_, rfl⟩
          rw [← hv']
          have hb : Below v3.heap.size v3 v4 := by rw [hv']; exact one_al _ _
          have BX : Hid (Box v4 v3.heap.size #[.string ⟨#[]⟩, .int .i64 0, .bool false, .int .i64 0, .int .i64 0, .int .i64 0, .int .i64 0, .int .i64 0, .int .i64 0, .int .i64 0, .int .i64 0, .int .i64 0, .int .i64 0]) := by unfold Hid; rw [hv']; exact Box.new _ _ _ _ rfl
          clear hv'
          replace CC : Hid (Below w2.heap.size w2 v4) := bt CC.out hb
          clear hb
          have hy4 := CC.out.size
          have hx4 := BX.out.lt
          refine hK.out _ _ (KP.out _ CC.out) (fun hHeld => ?_)
          clear hK KK
          try simp only [Act.put, List.getElem_toArray, List.getElem_cons_succ, List.getElem_cons_zero, List.setIfInBounds_toArray, List.set_cons_zero, List.set_cons_succ]
          refine wpAnyH_ready (rs := [6]) (by kernel_rfl) (by simp) ?_
          refine AllReadyH.cons rfl (fun KK hK => ?_) AllReadyH.nil
          have HTH : Hid (World.there v4 (v3.heap.size) 0 13) := BX.out.there rfl
          rw [if_pos (by rfl)]
          refine wp_store_mid 29 (.tmp 6) (.tmp 23) rfl (v3.heap.size) 0 (svL R).toArray rfl rfl HTH.out Sv_sizeI (svL_one R) ?_
          refine hK.out _ _ (KP.out _ (Below.sets (by omega) _ _ CC.out)) (fun hHeld => ?_)
          clear hK KK
          try simp only [Act.put, List.getElem_toArray, List.getElem_cons_succ, List.getElem_cons_zero]
          refine wpAnyH_done (by kernel_rfl) ?_ _
          go_wp2
          go_meet
          exact ⟨v3.heap.size, rfl, Below.sets (by omega) _ _ CC.out, BX.out.full rfl, by omega⟩
        ·
          go_simp
          obtain ⟨v3, hv'⟩ : ∃ vv, vv = v2.alloc (.cells #[.string ⟨#[]⟩, .int .i64 0, .bool false, .int .i64 0, .int .i64 0, .int .i64 0, .int .i64 0, .int .i64 0, .int .i64 0, .int .i64 0, .int .i64 0, .int .i64 0, .int .i64 0] 29) := ⟨_, rfl⟩
          rw [← hv']
          have hb : Below v2.heap.size v2 v3 := by rw [hv']; exact one_al _ _
          have BX : Hid (Box v3 v2.heap.size #[.string ⟨#[]⟩, .int .i64 0, .bool false, .int .i64 0, .int .i64 0, .int .i64 0, .int .i64 0, .int .i64 0, .int .i64 0, .int .i64 0, .int .i64 0, .int .i64 0, .int .i64 0]) := by unfold Hid; rw [hv']; exact Box.new _ _ _ _ rfl
          clear hv'
          replace V5 := hide (V5.out.below hb)
          replace CC : Hid (Below w2.heap.size w2 v3) := bt CC.out hb
          clear hb
          have hy3 := CC.out.size
          have hx3 := BX.out.lt
          refine hK.out _ _ (KP.out _ CC.out) (fun hHeld => ?_)
          clear hK KK
          try simp only [Act.put, List.getElem_toArray, List.getElem_cons_succ, List.getElem_cons_zero, List.setIfInBounds_toArray, List.set_cons_zero, List.set_cons_succ]
          refine wpAnyH_ready (rs := [4]) (by kernel_rfl) (by simp) ?_
          refine AllReadyH.cons rfl (fun KK hK => ?_) AllReadyH.nil
          go_simp
          refine (specService_any kind nm team _ _ en ver V old _ V5.out).mono ?_
          rintro e v4 ⟨rfl, hb⟩
          rw [HRS.out]
          replace BX := hide (BX.out.on hb)
          replace CC : Hid (Below w2.heap.size w2 v4) := bt CC.out hb
          clear hb
          have hy4 := CC.out.size
          try go_wp2_with fail
          have hx4 := BX.out.lt
          refine hK.out _ _ (KP.out _ CC.out) (fun hHeld => ?_)
          clear hK KK
          try simp only [Act.put, List.getElem_toArray, List.getElem_cons_succ, List.getElem_cons_zero, List.setIfInBounds_toArray, List.set_cons_zero, List.set_cons_succ]
          refine wpAnyH_ready (rs := [6]) (by kernel_rfl) (by simp) ?_
          refine AllReadyH.cons rfl (fun KK hK => ?_) AllReadyH.nil
          have HTH : Hid (World.there v4 (v2.heap.size) 0 13) := BX.out.there rfl
          rw [if_pos (by rfl)]
          refine wp_store_mid 29 (.tmp 6) (.tmp 23) rfl (v2.heap.size) 0 (svL R).toArray rfl rfl HTH.out Sv_sizeI (svL_one R) ?_
          refine hK.out _ _ (KP.out _ (Below.sets (by omega) _ _ CC.out)) (fun hHeld => ?_)
          clear hK KK
          try simp only [Act.put, List.getElem_toArray, List.getElem_cons_succ, List.getElem_cons_zero]
          refine wpAnyH_done (by kernel_rfl) ?_ _
          go_wp2
          go_meet
          exact ⟨v2.heap.size, rfl, Below.sets (by omega) _ _ CC.out, BX.out.full rfl, by omega⟩
      ·
        go_simp
        obtain ⟨v2, hv'⟩ : ∃ vv, vv = v1.alloc (.cells #[.string ⟨#[]⟩, .int .i64 0, .bool false, .int .i64 0, .int .i64 0, .int .i64 0, .int .i64 0, .int .i64 0, .int .i64 0, .int .i64 0, .int .i64 0, .int .i64 0, .int .i64 0] 29) := ⟨_, rfl⟩
        rw [← hv']
        have hb : Below v1.heap.size v1 v2 := by rw [hv']; exact one_al _ _
        have BX : Hid (Box v2 v1.heap.size #[.string ⟨#[]⟩, .int .i64 0, .bool false, .int .i64 0, .int .i64 0, .int .i64 0, .int .i64 0, .int .i64 0, .int .i64 0, .int .i64 0, .int .i64 0, .int .i64 0, .int .i64 0]) := by unfold Hid; rw [hv']; exact Box.new _ _ _ _ rfl
        clear hv'
        replace V5 := hide (V5.out.below hb)
        replace CC : Hid (Below w2.heap.size w2 v2) := bt CC.out hb
        clear hb
        have hy2 := CC.out.size
        have hx2 := BX.out.lt
        refine hK.out _ _ (KP.out _ CC.out) (fun hHeld => ?_)
        clear hK KK
        try simp only [Act.put, List.getElem_toArray, List.getElem_cons_succ, List.getElem_cons_zero, List.setIfInBounds_toArray, List.set_cons_zero, List.set_cons_succ]
        refine wpAnyH_ready (rs := [3]) (by kernel_rfl) (by simp) ?_
        refine AllReadyH.cons rfl (fun KK hK => ?_) AllReadyH.nil
        go_simp
        refine (toSv_any old _).mono ?_
        rintro e v3 ⟨rfl, hb⟩
        try replace V5 := hide (V5.out.below hb)
        replace BX := hide (BX.out.on hb)
        replace CC : Hid (Below w2.heap.size w2 v3) := bt CC.out hb
        clear hb
        have hy3 := CC.out.size
        try go_wp2_with fail
        have hx3 := BX.out.lt
        refine hK.out _ _ (KP.out _ CC.out) (fun hHeld => ?_)
        clear hK KK
        try simp only [Act.put, List.getElem_toArray, List.getElem_cons_succ, List.getElem_cons_zero, List.setIfInBounds_toArray, List.set_cons_zero, List.set_cons_succ]
        refine wpAnyH_ready (rs := [4]) (by kernel_rfl) (by simp) ?_
        refine AllReadyH.cons rfl (fun KK hK => ?_) AllReadyH.nil
        go_simp
        refine (specService_any kind nm team _ _ en ver V old _ V5.out).mono ?_
        rintro e v4 ⟨rfl, hb⟩
        rw [HRS.out]
        replace BX := hide (BX.out.on hb)
        replace CC : Hid (Below w2.heap.size w2 v4) := bt CC.out hb
        clear hb
        have hy4 := CC.out.size
        try go_wp2_with fail
        have hx4 := BX.out.lt
        refine hK.out _ _ (KP.out _ CC.out) (fun hHeld => ?_)
        clear hK KK
        try simp only [Act.put, List.getElem_toArray, List.getElem_cons_succ, List.getElem_cons_zero, List.setIfInBounds_toArray, List.set_cons_zero, List.set_cons_succ]
        refine wpAnyH_ready (rs := [6]) (by kernel_rfl) (by simp) ?_
        refine AllReadyH.cons rfl (fun KK hK => ?_) AllReadyH.nil
        have HTH : Hid (World.there v4 (v1.heap.size) 0 13) := BX.out.there rfl
        rw [if_pos (by rfl)]
        refine wp_store_mid 29 (.tmp 6) (.tmp 23) rfl (v1.heap.size) 0 (svL R).toArray rfl rfl HTH.out Sv_sizeI (svL_one R) ?_
        refine hK.out _ _ (KP.out _ (Below.sets (by omega) _ _ CC.out)) (fun hHeld => ?_)
        clear hK KK
        try simp only [Act.put, List.getElem_toArray, List.getElem_cons_succ, List.getElem_cons_zero]
        refine wpAnyH_done (by kernel_rfl) ?_ _
        go_wp2
        go_meet
        exact ⟨v1.heap.size, rfl, Below.sets (by omega) _ _ CC.out, BX.out.full rfl, by omega⟩
    ·
      go_simp
      obtain ⟨v1, hv'⟩ : ∃ vv, vv = (w2.alloc (.cells #[.string ⟨#[]⟩, .int .i64 0, .bool false, .int .i64 0, .int .i64 0, .int .i64 0, .int .i64 0, .int .i64 0, .int .i64 0, .int .i64 0, .int .i64 0, .int .i64 0, .int .i64 0] 29)).drew := ⟨_, rfl⟩
      rw [← hv']
      have hb : Below w2.heap.size w2 v1 := by rw [hv']; exact (one_al _ _).drew
      have BX : Hid (Box v1 w2.heap.size #[.string ⟨#[]⟩, .int .i64 0, .bool false, .int .i64 0, .int .i64 0, .int .i64 0, .int .i64 0, .int .i64 0, .int .i64 0, .int .i64 0, .int .i64 0, .int .i64 0, .int .i64 0]) := by unfold Hid; rw [hv']; exact (Box.new _ _ _ _ rfl).drew
      clear hv'
      have CC : Hid (Below w2.heap.size w2 v1) := hb
      clear hb
      have hy1 := CC.out.size
      have hx1 := BX.out.lt
      refine hK.out _ _ (KP.out _ CC.out) (fun hHeld => ?_)
      clear hK KK
      try simp only [Act.put, List.getElem_toArray, List.getElem_cons_succ, List.getElem_cons_zero, List.setIfInBounds_toArray, List.set_cons_zero, List.set_cons_succ]
      refine wpAnyH_ready (rs := [1]) (by kernel_rfl) (by simp) ?_
      refine AllReadyH.cons rfl (fun KK hK => ?_) AllReadyH.nil
      go_simp
      refine (toObj_any kind nm team _ _ en ver V Ho _ (HV2.out.below CC.out) (HH2.out.below CC.out) hVm.out hHm.out).mono ?_
      rintro e v2 ⟨v5, h5, rfl, hb, hv5, _⟩
      have V5 := hide hv5.at
      clear hv5
      replace BX := hide (BX.out.on hb)
      replace CC : Hid (Below w2.heap.size w2 v2) := bt CC.out hb
      clear hb
      have hy2 := CC.out.size
      try go_wp2_with fail
      have hx2 := BX.out.lt
      refine hK.out _ _ (KP.out _ CC.out) (fun hHeld => ?_)
      clear hK KK
      try simp only [Act.put, List.getElem_toArray, List.getElem_cons_succ, List.getElem_cons_zero, List.setIfInBounds_toArray, List.set_cons_zero, List.set_cons_succ]
      refine wpAnyH_ready (rs := [3]) (by kernel_rfl) (by simp) ?_
      refine AllReadyH.cons rfl (fun KK hK => ?_) AllReadyH.nil
      go_simp
      refine (toSv_any old _).mono ?_
      rintro e v3 ⟨rfl, hb⟩
      try replace V5 := hide (V5.out.below hb)
      replace BX := hide (BX.out.on hb)
      replace CC : Hid (Below w2.heap.size w2 v3) := bt CC.out hb
      clear hb
      have hy3 := CC.out.size
      try go_wp2_with fail
      have hx3 := BX.out.lt
      refine hK.out _ _ (KP.out _ CC.out) (fun hHeld => ?_)
      clear hK KK
      try simp only [Act.put, List.getElem_toArray, List.getElem_cons_succ, List.getElem_cons_zero, List.setIfInBounds_toArray, List.set_cons_zero, List.set_cons_succ]
      refine wpAnyH_ready (rs := [4]) (by kernel_rfl) (by simp) ?_
      refine AllReadyH.cons rfl (fun KK hK => ?_) AllReadyH.nil
      go_simp
      refine (specService_any kind nm team _ _ en ver V old _ V5.out).mono ?_
      rintro e v4 ⟨rfl, hb⟩
      rw [HRS.out]
      replace BX := hide (BX.out.on hb)
      replace CC : Hid (Below w2.heap.size w2 v4) := bt CC.out hb
      clear hb
      have hy4 := CC.out.size
      try go_wp2_with fail
      have hx4 := BX.out.lt
      refine hK.out _ _ (KP.out _ CC.out) (fun hHeld => ?_)
      clear hK KK
      try simp only [Act.put, List.getElem_toArray, List.getElem_cons_succ, List.getElem_cons_zero, List.setIfInBounds_toArray, List.set_cons_zero, List.set_cons_succ]
      refine wpAnyH_ready (rs := [6]) (by kernel_rfl) (by simp) ?_
      refine AllReadyH.cons rfl (fun KK hK => ?_) AllReadyH.nil
      have HTH : Hid (World.there v4 (w2.heap.size) 0 13) := BX.out.there rfl
      rw [if_pos (by rfl)]
      refine wp_store_mid 29 (.tmp 6) (.tmp 23) rfl (w2.heap.size) 0 (svL R).toArray rfl rfl HTH.out Sv_sizeI (svL_one R) ?_
      refine hK.out _ _ (KP.out _ (Below.sets (by omega) _ _ CC.out)) (fun hHeld => ?_)
      clear hK KK
      try simp only [Act.put, List.getElem_toArray, List.getElem_cons_succ, List.getElem_cons_zero]
      refine wpAnyH_done (by kernel_rfl) ?_ _
      go_wp2
      go_meet
      exact ⟨w2.heap.size, rfl, Below.sets (by omega) _ _ CC.out, BX.out.full rfl, by omega⟩
  case rest =>
  obtain ⟨β6, rfl, hb, hX, hβ6⟩ := hcut
  rename World => w3
  have F6 : Hid (Box w3 β6 #[.string R.nm, .int .i64 R.ve, .bool R.gn, .int .i64 R.im, .int .i64 R.wa, .int .i64 R.dn, .int .i64 R.ov, .int .i64 R.nx, .int .i64 R.pr, .int .i64 R.ls, .int .i64 R.ms, .int .i64 R.ld, .int .i64 R.cl]) := hX
  have hs3 := hb.size
  replace HB : Hid (Below w.heap.size w w3) := bt HB.out hb
  replace FA := hide (FA.out.on hb)
  replace FB := hide (FB.out.on hb)
  clear hX hb KP HV2 HH2
  have g0 := FA.out.cell
  have gl := FA.out.lt
  go_wp2_with fail
  clear g0 gl
  refine (toObj_any kind nm team _ _ en ver V Ho _ (HV.out.below HB.out) (HH.out.below HB.out) hVm.out hHm.out).mono ?_
  rintro e w4 ⟨v9, h9, rfl, hb, hv9, hh9⟩
  replace HB : Hid (Below w.heap.size w w4) := bt HB.out hb
  replace FA := hide (FA.out.on hb)
  replace FB := hide (FB.out.on hb)
  replace F6 := hide (F6.out.on hb)
  have HV9 := hide hv9.at
  have HH9 := hide hh9.at
  obtain ⟨xa, xcap, rfl⟩ := hv9.at.form'
  obtain ⟨ya, ycap, rfl⟩ := hh9.at.form'
  clear hb hv9 hh9
  go_upto_region 10 with fail
  generalize hWx : w4.alloc _ = w5
  have hb : Below w4.heap.size w4 w5 := by rw [← hWx]; exact one_al _ _
  have F7 : Hid (Box w5 w4.heap.size #[.string kind, .string nm, .string team, .slice xa V.length xcap, .bool en, .slice ya Ho.length ycap, .int .i64 ver]) := by unfold Hid; rw [← hWx]; exact Box.new _ _ _ _ rfl
  replace HB : Hid (Below w.heap.size w w5) := bt HB.out hb
  replace FA := hide (FA.out.on hb)
  replace FB := hide (FB.out.on hb)
  replace F6 := hide (F6.out.on hb)
  replace HV9 := hide (HV9.out.below hb)
  replace HH9 := hide (HH9.out.below hb)
  clear hWx hb
  generalize w4.heap.size = β7 at *
  have KP : Hid (∀ W, Below w5.heap.size w5 W → (∀ i, W.cell? ⟨β7, i, none⟩ = #[.string kind, .string nm, .string team, .slice xa V.length xcap, .bool en, .slice ya Ho.length ycap, .int .i64 ver][i]?) ∧ (∀ i, W.cell? ⟨w.heap.size + 1, i, none⟩ = #[.string old.nm, .int .i64 old.ve, .bool old.gn, .int .i64 old.im, .int .i64 old.wa, .int .i64 old.dn, .int .i64 old.ov, .int .i64 old.nx, .int .i64 old.pr, .int .i64 old.ls, .int .i64 old.ms, .int .i64 old.ld, .int .i64 old.cl][i]?)) := fun W hW => ⟨(F7.out.on hW).cell, (FB.out.on hW).cell⟩
  go_cut [8] (fun p wc => ∃ β, p = .pointer (some ⟨β, 0, none⟩) ∧ Below w5.heap.size w5 wc ∧ Box wc β #[.string R.nm, .int .i64 R.ve, .bool R.gn, .int .i64 R.im, .int .i64 R.wa, .int .i64 R.dn, .int .i64 R.ov, .int .i64 R.nx, .int .i64 R.pr, .int .i64 R.ls, .int .i64 R.ms, .int .i64 R.ld, .int .i64 R.cl] ∧ w5.heap.size ≤ β)
  case first =>
    refine wp_region_held_drew (S := fun W => (∀ i, W.cell? ⟨β7, i, none⟩ = #[.string kind, .string nm, .string team, .slice xa V.length xcap, .bool en, .slice ya Ho.length ycap, .int .i64 ver][i]?) ∧ (∀ i, W.cell? ⟨w.heap.size + 1, i, none⟩ = #[.string old.nm, .int .i64 old.ve, .bool old.gn, .int .i64 old.im, .int .i64 old.wa, .int .i64 old.dn, .int .i64 old.ov, .int .i64 old.nx, .int .i64 old.pr, .int .i64 old.ls, .int .i64 old.ms, .int .i64 old.ld, .int .i64 old.cl][i]?)) (by kernel_rfl) (KP.out _ ((Below.refl _ _).drew)) (fun hHeld => ?_)
    refine wpAnyH_take (i := 0) (v := .agg #[.string kind, .string nm, .string team, .slice xa V.length xcap, .bool en, .slice ya Ho.length ycap, .int .i64 ver]) rfl (by kernel_rfl) (by kernel_rfl) (by kernel_rfl) (fun _ _ _ h => h) (Or.inl ⟨by rfl, fun W hW => by obtain ⟨hq, hp⟩ := hW; go_simp⟩) hHeld ?_
    try simp only [Act.put, List.getElem_toArray, List.getElem_cons_zero, List.setIfInBounds_toArray, List.set_cons_zero, List.set_cons_succ]
    refine wpAnyH_take (i := 1) (v := .agg #[.string old.nm, .int .i64 old.ve, .bool old.gn, .int .i64 old.im, .int .i64 old.wa, .int .i64 old.dn, .int .i64 old.ov, .int .i64 old.nx, .int .i64 old.pr, .int .i64 old.ls, .int .i64 old.ms, .int .i64 old.ld, .int .i64 old.cl]) rfl (by kernel_rfl) (by kernel_rfl) (by kernel_rfl) (fun _ _ _ h => h) (Or.inl ⟨by rfl, fun W hW => by obtain ⟨hq, hp⟩ := hW; go_simp⟩) hHeld ?_
    try simp only [Act.put, List.getElem_toArray, List.getElem_cons_succ, List.getElem_cons_zero, List.setIfInBounds_toArray, List.set_cons_zero, List.set_cons_succ]
    refine wpAnyH_ready (rs := [2, 4]) (by kernel_rfl) (by simp) ?_
    refine AllReadyH.cons rfl (fun KK hK => ?_) (AllReadyH.cons rfl (fun KK hK => ?_) AllReadyH.nil)
    ·
      go_simp
      refine (toSv_any old _).mono ?_
      rintro e v1 ⟨rfl, hb⟩
      have CC : Hid (Below w5.heap.size w5 v1) := bt ((Below.refl _ _).drew) hb
      clear hb
      have hy1 := CC.out.size
      try go_wp2_with fail
      refine hK.out _ _ (KP.out _ CC.out) (fun hHeld => ?_)
      clear hK KK
      try simp only [Act.put, List.getElem_toArray, List.getElem_cons_succ, List.getElem_cons_zero, List.setIfInBounds_toArray, List.set_cons_zero, List.set_cons_succ]
      refine wpAnyH_ready (rs := [3, 4]) (by kernel_rfl) (by simp) ?_
      refine AllReadyH.cons rfl (fun KK hK => ?_) (AllReadyH.cons rfl (fun KK hK => ?_) AllReadyH.nil)
      ·
        go_simp
        refine (implService_any kind nm team _ _ en ver V old _ (HV9.out.below CC.out)).mono ?_
        rintro e v2 ⟨rfl, hb⟩
        rw [HRS.out]
        replace CC : Hid (Below w5.heap.size w5 v2) := bt CC.out hb
        clear hb
        have hy2 := CC.out.size
        try go_wp2_with fail
        refine hK.out _ _ (KP.out _ CC.out) (fun hHeld => ?_)
        clear hK KK
        try simp only [Act.put, List.getElem_toArray, List.getElem_cons_succ, List.getElem_cons_zero, List.setIfInBounds_toArray, List.set_cons_zero, List.set_cons_succ]
        refine wpAnyH_ready (rs := [4]) (by kernel_rfl) (by simp) ?_
        refine AllReadyH.cons rfl (fun KK hK => ?_) AllReadyH.nil
        go_simp
        obtain ⟨v3, hv'⟩ : ∃ vv, vv = v2.alloc (.cells #[.string ⟨#[]⟩, .int .i64 0, .bool false, .int .i64 0, .int .i64 0, .int .i64 0, .int .i64 0, .int .i64 0, .int .i64 0, .int .i64 0, .int .i64 0, .int .i64 0, .int .i64 0] 29) := ⟨_, rfl⟩
        rw [← hv']
        have hb : Below v2.heap.size v2 v3 := by rw [hv']; exact one_al _ _
        have BX : Hid (Box v3 v2.heap.size #[.string ⟨#[]⟩, .int .i64 0, .bool false, .int .i64 0, .int .i64 0, .int .i64 0, .int .i64 0, .int .i64 0, .int .i64 0, .int .i64 0, .int .i64 0, .int .i64 0, .int .i64 0]) := by unfold Hid; rw [hv']; exact Box.new _ _ _ _ rfl
        clear hv'
        replace CC : Hid (Below w5.heap.size w5 v3) := bt CC.out hb
        clear hb
        have hy3 := CC.out.size
        have hx3 := BX.out.lt
        refine hK.out _ _ (KP.out _ CC.out) (fun hHeld => ?_)
        clear hK KK
        try simp only [Act.put, List.getElem_toArray, List.getElem_cons_succ, List.getElem_cons_zero, List.setIfInBounds_toArray, List.set_cons_zero, List.set_cons_succ]
        refine wpAnyH_ready (rs := [5]) (by kernel_rfl) (by simp) ?_
        refine AllReadyH.cons rfl (fun KK hK => ?_) AllReadyH.nil
        have HTH : Hid (World.there v3 (v2.heap.size) 0 13) := BX.out.there rfl
        rw [if_pos (by rfl)]
        refine wp_store_mid 29 (.tmp 8) (.tmp 29) rfl (v2.heap.size) 0 (svL R).toArray rfl rfl HTH.out Sv_sizeI (svL_one R) ?_
        refine hK.out _ _ (KP.out _ (Below.sets (by omega) _ _ CC.out)) (fun hHeld => ?_)
        clear hK KK
        try simp only [Act.put, List.getElem_toArray, List.getElem_cons_succ, List.getElem_cons_zero]
        refine wpAnyH_done (by kernel_rfl) ?_ _
        go_wp2
        go_meet
        exact ⟨v2.heap.size, rfl, Below.sets (by omega) _ _ CC.out, BX.out.full rfl, by omega⟩
      ·
        go_simp
        obtain ⟨v2, hv'⟩ : ∃ vv, vv = v1.alloc (.cells #[.string ⟨#[]⟩, .int .i64 0, .bool false, .int .i64 0, .int .i64 0, .int .i64 0, .int .i64 0, .int .i64 0, .int .i64 0, .int .i64 0, .int .i64 0, .int .i64 0, .int .i64 0] 29) := ⟨_, rfl⟩
        rw [← hv']
        have hb : Below v1.heap.size v1 v2 := by rw [hv']; exact one_al _ _
        have BX : Hid (Box v2 v1.heap.size #[.string ⟨#[]⟩, .int .i64 0, .bool false, .int .i64 0, .int .i64 0, .int .i64 0, .int .i64 0, .int .i64 0, .int .i64 0, .int .i64 0, .int .i64 0, .int .i64 0, .int .i64 0]) := by unfold Hid; rw [hv']; exact Box.new _ _ _ _ rfl
        clear hv'
        replace CC : Hid (Below w5.heap.size w5 v2) := bt CC.out hb
        clear hb
        have hy2 := CC.out.size
        have hx2 := BX.out.lt
        refine hK.out _ _ (KP.out _ CC.out) (fun hHeld => ?_)
        clear hK KK
        try simp only [Act.put, List.getElem_toArray, List.getElem_cons_succ, List.getElem_cons_zero, List.setIfInBounds_toArray, List.set_cons_zero, List.set_cons_succ]
        refine wpAnyH_ready (rs := [3]) (by kernel_rfl) (by simp) ?_
        refine AllReadyH.cons rfl (fun KK hK => ?_) AllReadyH.nil
        go_simp
        refine (implService_any kind nm team _ _ en ver V old _ (HV9.out.below CC.out)).mono ?_
        rintro e v3 ⟨rfl, hb⟩
        rw [HRS.out]
        replace BX := hide (BX.out.on hb)
        replace CC : Hid (Below w5.heap.size w5 v3) := bt CC.out hb
        clear hb
        have hy3 := CC.out.size
        try go_wp2_with fail
        have hx3 := BX.out.lt
        refine hK.out _ _ (KP.out _ CC.out) (fun hHeld => ?_)
        clear hK KK
        try simp only [Act.put, List.getElem_toArray, List.getElem_cons_succ, List.getElem_cons_zero, List.setIfInBounds_toArray, List.set_cons_zero, List.set_cons_succ]
        refine wpAnyH_ready (rs := [5]) (by kernel_rfl) (by simp) ?_
        refine AllReadyH.cons rfl (fun KK hK => ?_) AllReadyH.nil
        have HTH : Hid (World.there v3 (v1.heap.size) 0 13) := BX.out.there rfl
        rw [if_pos (by rfl)]
        refine wp_store_mid 29 (.tmp 8) (.tmp 29) rfl (v1.heap.size) 0 (svL R).toArray rfl rfl HTH.out Sv_sizeI (svL_one R) ?_
        refine hK.out _ _ (KP.out _ (Below.sets (by omega) _ _ CC.out)) (fun hHeld => ?_)
        clear hK KK
        try simp only [Act.put, List.getElem_toArray, List.getElem_cons_succ, List.getElem_cons_zero]
        refine wpAnyH_done (by kernel_rfl) ?_ _
        go_wp2
        go_meet
        exact ⟨v1.heap.size, rfl, Below.sets (by omega) _ _ CC.out, BX.out.full rfl, by omega⟩
    ·
      go_simp
      obtain ⟨v1, hv'⟩ : ∃ vv, vv = (w5.alloc (.cells #[.string ⟨#[]⟩, .int .i64 0, .bool false, .int .i64 0, .int .i64 0, .int .i64 0, .int .i64 0, .int .i64 0, .int .i64 0, .int .i64 0, .int .i64 0, .int .i64 0, .int .i64 0] 29)).drew := ⟨_, rfl⟩
      rw [← hv']
      have hb : Below w5.heap.size w5 v1 := by rw [hv']; exact (one_al _ _).drew
      have BX : Hid (Box v1 w5.heap.size #[.string ⟨#[]⟩, .int .i64 0, .bool false, .int .i64 0, .int .i64 0, .int .i64 0, .int .i64 0, .int .i64 0, .int .i64 0, .int .i64 0, .int .i64 0, .int .i64 0, .int .i64 0]) := by unfold Hid; rw [hv']; exact (Box.new _ _ _ _ rfl).drew
      clear hv'
      have CC : Hid (Below w5.heap.size w5 v1) := hb
      clear hb
      have hy1 := CC.out.size
      have hx1 := BX.out.lt
      refine hK.out _ _ (KP.out _ CC.out) (fun hHeld => ?_)
      clear hK KK
      try simp only [Act.put, List.getElem_toArray, List.getElem_cons_succ, List.getElem_cons_zero, List.setIfInBounds_toArray, List.set_cons_zero, List.set_cons_succ]
      refine wpAnyH_ready (rs := [2]) (by kernel_rfl) (by simp) ?_
      refine AllReadyH.cons rfl (fun KK hK => ?_) AllReadyH.nil
      go_simp
      refine (toSv_any old _).mono ?_
      rintro e v2 ⟨rfl, hb⟩
      replace BX := hide (BX.out.on hb)
      replace CC : Hid (Below w5.heap.size w5 v2) := bt CC.out hb
      clear hb
      have hy2 := CC.out.size
      try go_wp2_with fail
      have hx2 := BX.out.lt
      refine hK.out _ _ (KP.out _ CC.out) (fun hHeld => ?_)
      clear hK KK
      try simp only [Act.put, List.getElem_toArray, List.getElem_cons_succ, List.getElem_cons_zero, List.setIfInBounds_toArray, List.set_cons_zero, List.set_cons_succ]
      refine wpAnyH_ready (rs := [3]) (by kernel_rfl) (by simp) ?_
      refine AllReadyH.cons rfl (fun KK hK => ?_) AllReadyH.nil
      go_simp
      refine (implService_any kind nm team _ _ en ver V old _ (HV9.out.below CC.out)).mono ?_
      rintro e v3 ⟨rfl, hb⟩
      rw [HRS.out]
      replace BX := hide (BX.out.on hb)
      replace CC : Hid (Below w5.heap.size w5 v3) := bt CC.out hb
      clear hb
      have hy3 := CC.out.size
      try go_wp2_with fail
      have hx3 := BX.out.lt
      refine hK.out _ _ (KP.out _ CC.out) (fun hHeld => ?_)
      clear hK KK
      try simp only [Act.put, List.getElem_toArray, List.getElem_cons_succ, List.getElem_cons_zero, List.setIfInBounds_toArray, List.set_cons_zero, List.set_cons_succ]
      refine wpAnyH_ready (rs := [5]) (by kernel_rfl) (by simp) ?_
      refine AllReadyH.cons rfl (fun KK hK => ?_) AllReadyH.nil
      have HTH : Hid (World.there v3 (w5.heap.size) 0 13) := BX.out.there rfl
      rw [if_pos (by rfl)]
      refine wp_store_mid 29 (.tmp 8) (.tmp 29) rfl (w5.heap.size) 0 (svL R).toArray rfl rfl HTH.out Sv_sizeI (svL_one R) ?_
      refine hK.out _ _ (KP.out _ (Below.sets (by omega) _ _ CC.out)) (fun hHeld => ?_)
      clear hK KK
      try simp only [Act.put, List.getElem_toArray, List.getElem_cons_succ, List.getElem_cons_zero]
      refine wpAnyH_done (by kernel_rfl) ?_ _
      go_wp2
      go_meet
      exact ⟨w5.heap.size, rfl, Below.sets (by omega) _ _ CC.out, BX.out.full rfl, by omega⟩
  case rest =>
  obtain ⟨β8, rfl, hb, hX, hβ8⟩ := hcut
  rename World => w6
  have F8 : Hid (Box w6 β8 #[.string R.nm, .int .i64 R.ve, .bool R.gn, .int .i64 R.im, .int .i64 R.wa, .int .i64 R.dn, .int .i64 R.ov, .int .i64 R.nx, .int .i64 R.pr, .int .i64 R.ls, .int .i64 R.ms, .int .i64 R.ld, .int .i64 R.cl]) := hX
  replace HB : Hid (Below w.heap.size w w6) := bt HB.out hb
  replace FA := hide (FA.out.on hb)
  replace F6 := hide (F6.out.on hb)
  replace F7 := hide (F7.out.on hb)
  replace HV9 := hide (HV9.out.below hb)
  replace HH9 := hide (HH9.out.below hb)
  clear hX hb KP FB
  have g0 := F6.out.cell
  have gl := F6.out.lt
  have k0 := F8.out.cell
  have kl := F8.out.lt
  go_wp2_with fail
  clear g0 gl k0 kl
  refine (eqSv_same R _).mono ?_
  rintro e w7 ⟨rfl, hb⟩
  replace HB : Hid (Below w.heap.size w w7) := bt HB.out hb
  replace FA := hide (FA.out.on hb)
  replace F7 := hide (F7.out.on hb)
  replace HV9 := hide (HV9.out.below hb)
  replace HH9 := hide (HH9.out.below hb)
  clear hb F6 F8
  go_wp2
  have HVf := hide (HV.out.below HB.out)
  have HHf := hide (HH.out.below HB.out)
  go_region_held3 (Held2 w7 β7 #[.string kind, .string nm, .string team, .slice xa V.length xcap, .bool en, .slice ya Ho.length ycap, .int .i64 ver] w.heap.size #[.string kind, .string nm, .string team, .slice va V.length vcap, .bool en, .slice ha Ho.length hcap, .int .i64 ver])
    (first
      | (with_reducible exact Held2.drew F7.out FA.out)
      | (with_reducible exact Held2.on (by assumption) (by assumption)))
    (first
      | (go_at_call 7
         refine (toObj_any kind nm team _ _ en ver V Ho _ (HVf.out.below ((Below.refl _ _).drew)) (HHf.out.below ((Below.refl _ _).drew)) hVm.out hHm.out).mono ?_
         rintro e wg ⟨vg, hg, rfl, hbg, hvg, hhg⟩
         have HC10 : Hid (Below w7.heap.size w7 wg) := bt ((Below.refl _ _).drew) hbg
         have HVg := hide hvg.at
         have HHg := hide hhg.at
         obtain ⟨xg, xgcap, rfl⟩ := hvg.at.form'
         obtain ⟨yg, ygcap, rfl⟩ := hhg.at.form'
         clear hvg hhg)
      | (go_at_call 11
         refine (eqObj_same kind nm team _ _ en ver V Ho _ _ _ (HV9.out.below HC10.out) (HH9.out.below HC10.out) HVg.out HHg.out).mono ?_
         rintro e wh ⟨rfl, hbh⟩
         have HC11 : Hid (Below w7.heap.size w7 wh) := bt HC10.out hbh))
  go_wp2
  go_ret
  exact ⟨rfl, bt HB.out HC11.out⟩
end Go.Proofs.Ytgnodlkdjpnmoaa
