
import Derived.Test.YtgnodlkdjpnmoaaHS1
namespace Go.Proofs.Ytgnodlkdjpnmoaa
open Go.RowKit Go.Deep

set_option maxRecDepth 20000 in
set_option maxHeartbeats 8000000 in
theorem implService_any (kind nm team : ByteArray) (vv hv : Value) (en : Bool) (ver : Int) (V : List ByteArray) (old : Sv) (w : World) (hV : StrsAt w vv V) :
    Calls Try.prog 9 #[.agg #[.string kind, .string nm, .string team, vv, .bool en, hv, .int .i64 ver], .agg (svL old).toArray] w
      fun e w' => e = .returned (.agg (svL (hallSv nm en V old)).toArray) ∧ Below w.heap.size w w' := by
  by_cases hL : V.length = 6
  case neg =>
    have HE : Hid (hallSv nm en V old = ⟨⟨#[]⟩, 0, false, 0, 0, 0, 0, 0, 0, 0, 0, 0, 0⟩) := hallSv_no hL
    obtain ⟨va, vc, rfl⟩ := hV.form'
    have hl : ¬ ((V.length : Int) = 6) := by omega
    clear hV hL
    go_enter Try.func9, Try.ntmps9
    unfold svL
    go_wp2
    refine bodyPost_ret (v := .agg #[.string ⟨#[]⟩, .int .i64 0, .bool false, .int .i64 0, .int .i64 0, .int .i64 0, .int .i64 0, .int .i64 0, .int .i64 0, .int .i64 0, .int .i64 0, .int .i64 0, .int .i64 0]) (by simp [results, Try.results9, go_sem]) rfl ⟨by rw [HE.out], ?_⟩
    repeat (refine Below.setCell ?_ (by simp; try omega) _)
    exact (((Below.refl _ _).alloc (Nat.le_refl _) _).alloc (by simp) _).alloc (by simp; omega) _
  obtain ⟨s0, s1, s2, s3, s4, s5, rfl⟩ := six_list hL
  obtain ⟨va, vc, rfl⟩ := hV.form'
  obtain ⟨vb, vo, rfl, hvb, hc, hz⟩ := strs_spread hV (by simp)
  have H6 : Hid (Six vb vo s0 s1 s2 s3 s4 s5 w) := ⟨hc 0 (by simp), hc 1 (by simp), hc 2 (by simp), hc 3 (by simp), hc 4 (by simp)⟩
  have HZ : Hid (∀ i, (six s0 s1 s2 s3 s4 s5 i).size ≤ maxLen) := fun i => by
    unfold six
    split <;> exact hz _ (by simp)
  clear hV hc hz hL
  have HE : Hid (hallSv nm en [s0, s1, s2, s3, s4, s5] old = if decR s4 = 0 then ⟨nm, 0, en, decR s0, decR s1, decR s2, decR s3, 0, 0, 0, 0, 0, 0⟩ else ⟨nm, 0, en, decR s0, if old.wa < decR s1 then old.wa else decR s1, decR s2, decR s3, 0, decR s4, 0, decR s1, old.ld, 0⟩) := rfl
  have HN4 : Hid (0 ≤ decR s4) := (decR_bd s4).1
  generalize hallSv nm en [s0, s1, s2, s3, s4, s5] old = R at *
  go_enter Try.func9, Try.ntmps9
  try simp only [List.length_cons, List.length_nil, Nat.reduceAdd]
  go_upto_region 3 with fail
  generalize hWa : World.alloc (World.alloc (World.alloc w _) _) _ = w1
  have HB : Hid (Below w.heap.size w w1) := by unfold Hid; rw [← hWa]; exact ((one_al w _).alloc (by simp) _).alloc (by simp; omega) _
  have FO : Hid (Box w1 w.heap.size #[.string kind, .string nm, .string team, .slice (some ⟨vb, vo, none⟩) 6 vc, .bool en, hv, .int .i64 ver]) := by unfold Hid; rw [← hWa]; exact ((Box.new _ _ _ _ rfl).on (one_al _ _)).on (one_al _ _)
  have FD : Hid (Box w1 (w.heap.size + 1) (svL old).toArray) := by unfold Hid; rw [← hWa]; exact (Box.new _ _ _ _ (by simp)).on (one_al _ _)
  have FR : Hid (Box w1 (w.heap.size + 2) #[.string ⟨#[]⟩, .int .i64 0, .bool false, .int .i64 0, .int .i64 0, .int .i64 0, .int .i64 0, .int .i64 0, .int .i64 0, .int .i64 0, .int .i64 0, .int .i64 0, .int .i64 0]) := by unfold Hid; rw [← hWa]; exact Box.new _ _ _ _ (by simp)
  have hsz : w1.heap.size = w.heap.size + 3 := by rw [← hWa]; simp
  have HSZ := hide hsz
  clear hWa
  have H61 := hide (H6.out.below HB.out hvb)
  have hvb1 : vb < w1.heap.size := by omega
  have KP : Hid (∀ W, Below w1.heap.size w1 W → (∀ i, W.cell? ⟨w.heap.size, i, none⟩ = #[.string kind, .string nm, .string team, .slice (some ⟨vb, vo, none⟩) 6 vc, .bool en, hv, .int .i64 ver][i]?) ∧ Six vb vo s0 s1 s2 s3 s4 s5 W) := fun W hW => ⟨(FO.out.on hW).cell, H61.out.below hW hvb1⟩
  clear hsz
  go_cut [5] (fun p wc => ∃ β, p = .pointer (some ⟨β, 0, none⟩) ∧ Below w1.heap.size w1 wc ∧ Box wc β #[.string nm, .int .i64 0, .bool en, .int .i64 (decR s0), .int .i64 0, .int .i64 (decR s2), .int .i64 (decR s3), .int .i64 0, .int .i64 (decR s4), .int .i64 0, .int .i64 0, .int .i64 0, .int .i64 0] ∧ w1.heap.size ≤ β)
  case first =>
    refine wp_region_held_drew (S := (fun W => (∀ i, W.cell? ⟨w.heap.size, i, none⟩ = #[.string kind, .string nm, .string team, .slice (some ⟨vb, vo, none⟩) 6 vc, .bool en, hv, .int .i64 ver][i]?) ∧ Six vb vo s0 s1 s2 s3 s4 s5 W)) (by kernel_rfl) (KP.out _ ((Below.refl _ _).drew)) (fun hHeld => ?_)
    refine wpAnyH_take (i := 0) (v := .pointer (some ⟨w.heap.size, 1, none⟩)) rfl (by kernel_rfl) (by kernel_rfl) (by kernel_rfl) (fun _ _ _ h => h) (Or.inl ⟨by rfl, fun W hW => by obtain ⟨hq, c0, c1, c2, c3, c4⟩ := hW; go_simp⟩) hHeld ?_
    try simp only [Act.put, List.getElem_toArray, List.getElem_cons_zero, List.setIfInBounds_toArray, List.set_cons_zero, List.set_cons_succ]
    refine wpAnyH_take (i := 1) (v := .string nm) rfl (by kernel_rfl) (by kernel_rfl) (by kernel_rfl) (fun _ _ _ h => h) (Or.inl ⟨by rfl, fun W hW => by obtain ⟨hq, c0, c1, c2, c3, c4⟩ := hW; go_simp⟩) hHeld ?_
    try simp only [Act.put, List.getElem_toArray, List.getElem_cons_succ, List.getElem_cons_zero, List.setIfInBounds_toArray, List.set_cons_zero, List.set_cons_succ]
    refine wpAnyH_take (i := 2) (v := .pointer (some ⟨w.heap.size, 4, none⟩)) rfl (by kernel_rfl) (by kernel_rfl) (by kernel_rfl) (fun _ _ _ h => h) (Or.inl ⟨by rfl, fun W hW => by obtain ⟨hq, c0, c1, c2, c3, c4⟩ := hW; go_simp⟩) hHeld ?_
    try simp only [Act.put, List.getElem_toArray, List.getElem_cons_succ, List.getElem_cons_zero, List.setIfInBounds_toArray, List.set_cons_zero, List.set_cons_succ]
    refine wpAnyH_take (i := 3) (v := .bool en) rfl (by kernel_rfl) (by kernel_rfl) (by kernel_rfl) (fun _ _ _ h => h) (Or.inl ⟨by rfl, fun W hW => by obtain ⟨hq, c0, c1, c2, c3, c4⟩ := hW; go_simp⟩) hHeld ?_
    try simp only [Act.put, List.getElem_toArray, List.getElem_cons_succ, List.getElem_cons_zero, List.setIfInBounds_toArray, List.set_cons_zero, List.set_cons_succ]
    refine wpAnyH_take (i := 4) (v := .agg #[.string kind, .string nm, .string team, .slice (some ⟨vb, vo, none⟩) 6 vc, .bool en, hv, .int .i64 ver]) rfl (by kernel_rfl) (by kernel_rfl) (by kernel_rfl) (fun _ _ _ h => h) (Or.inl ⟨by rfl, fun W hW => by obtain ⟨hq, c0, c1, c2, c3, c4⟩ := hW; go_simp⟩) hHeld ?_
    try simp only [Act.put, List.getElem_toArray, List.getElem_cons_succ, List.getElem_cons_zero, List.setIfInBounds_toArray, List.set_cons_zero, List.set_cons_succ]
    refine wpAnyH_take (i := 6) (v := .agg #[.string kind, .string nm, .string team, .slice (some ⟨vb, vo, none⟩) 6 vc, .bool en, hv, .int .i64 ver]) rfl (by kernel_rfl) (by kernel_rfl) (by kernel_rfl) (fun _ _ _ h => h) (Or.inl ⟨by rfl, fun W hW => by obtain ⟨hq, c0, c1, c2, c3, c4⟩ := hW; go_simp⟩) hHeld ?_
    try simp only [Act.put, List.getElem_toArray, List.getElem_cons_succ, List.getElem_cons_zero, List.setIfInBounds_toArray, List.set_cons_zero, List.set_cons_succ]
    refine wpAnyH_take (i := 8) (v := .agg #[.string kind, .string nm, .string team, .slice (some ⟨vb, vo, none⟩) 6 vc, .bool en, hv, .int .i64 ver]) rfl (by kernel_rfl) (by kernel_rfl) (by kernel_rfl) (fun _ _ _ h => h) (Or.inl ⟨by rfl, fun W hW => by obtain ⟨hq, c0, c1, c2, c3, c4⟩ := hW; go_simp⟩) hHeld ?_
    try simp only [Act.put, List.getElem_toArray, List.getElem_cons_succ, List.getElem_cons_zero, List.setIfInBounds_toArray, List.set_cons_zero, List.set_cons_succ]
    refine wpAnyH_take (i := 10) (v := .agg #[.string kind, .string nm, .string team, .slice (some ⟨vb, vo, none⟩) 6 vc, .bool en, hv, .int .i64 ver]) rfl (by kernel_rfl) (by kernel_rfl) (by kernel_rfl) (fun _ _ _ h => h) (Or.inl ⟨by rfl, fun W hW => by obtain ⟨hq, c0, c1, c2, c3, c4⟩ := hW; go_simp⟩) hHeld ?_
    try simp only [Act.put, List.getElem_toArray, List.getElem_cons_succ, List.getElem_cons_zero, List.setIfInBounds_toArray, List.set_cons_zero, List.set_cons_succ]
    refine wpAnyH_ready (rs := [5, 13]) (by kernel_rfl) (by simp) ?_
    refine AllReadyH.cons rfl (fun KK hK => ?_) (AllReadyH.cons rfl (fun KK hK => ?_) AllReadyH.nil)
    ·
      go_simp
      refine (hallNumber_any kind nm team en hv ver vb vo vc s0 s1 s2 s3 s4 s5 _ 0 (by omega) (H61.out.below ((Below.refl _ _).drew) hvb1) (by simpa using hvb1) HZ.out).mono ?_
      rintro e v1 ⟨rfl, hw⟩
      simp only [six]
      have CN : Hid (Below w1.heap.size w1 v1) := bt ((Below.refl _ _).drew) hw
      clear hw
      have CC := CN
      clear CN
      have hy1 := CC.out.size
      try go_wp2_with fail
      refine hK.out _ _ (KP.out _ CC.out) (fun hHeld => ?_)
      clear hK KK
      try simp only [Act.put, List.getElem_toArray, List.getElem_cons_succ, List.getElem_cons_zero, List.setIfInBounds_toArray, List.set_cons_zero, List.set_cons_succ]
      refine wpAnyH_ready (rs := [7, 13]) (by kernel_rfl) (by simp) ?_
      refine AllReadyH.cons rfl (fun KK hK => ?_) (AllReadyH.cons rfl (fun KK hK => ?_) AllReadyH.nil)
      ·
        go_simp
        refine (hallNumber_any kind nm team en hv ver vb vo vc s0 s1 s2 s3 s4 s5 _ 2 (by omega) (H61.out.below CC.out hvb1) (by have := CC.out.size; omega) HZ.out).mono ?_
        rintro e v2 ⟨rfl, hw⟩
        simp only [six]
        have CN : Hid (Below w1.heap.size w1 v2) := bt CC.out hw
        clear hw
        clear CC
        have CC := CN
        clear CN
        have hy2 := CC.out.size
        try go_wp2_with fail
        refine hK.out _ _ (KP.out _ CC.out) (fun hHeld => ?_)
        clear hK KK
        try simp only [Act.put, List.getElem_toArray, List.getElem_cons_succ, List.getElem_cons_zero, List.setIfInBounds_toArray, List.set_cons_zero, List.set_cons_succ]
        refine wpAnyH_ready (rs := [9, 13]) (by kernel_rfl) (by simp) ?_
        refine AllReadyH.cons rfl (fun KK hK => ?_) (AllReadyH.cons rfl (fun KK hK => ?_) AllReadyH.nil)
        ·
          go_simp
          refine (hallNumber_any kind nm team en hv ver vb vo vc s0 s1 s2 s3 s4 s5 _ 3 (by omega) (H61.out.below CC.out hvb1) (by have := CC.out.size; omega) HZ.out).mono ?_
          rintro e v3 ⟨rfl, hw⟩
          simp only [six]
          have CN : Hid (Below w1.heap.size w1 v3) := bt CC.out hw
          clear hw
          clear CC
          have CC := CN
          clear CN
          have hy3 := CC.out.size
          try go_wp2_with fail
          refine hK.out _ _ (KP.out _ CC.out) (fun hHeld => ?_)
          clear hK KK
          try simp only [Act.put, List.getElem_toArray, List.getElem_cons_succ, List.getElem_cons_zero, List.setIfInBounds_toArray, List.set_cons_zero, List.set_cons_succ]
          refine wpAnyH_ready (rs := [11, 13]) (by kernel_rfl) (by simp) ?_
          refine AllReadyH.cons rfl (fun KK hK => ?_) (AllReadyH.cons rfl (fun KK hK => ?_) AllReadyH.nil)
          ·
            go_simp
            refine (hallNumber_any kind nm team en hv ver vb vo vc s0 s1 s2 s3 s4 s5 _ 4 (by omega) (H61.out.below CC.out hvb1) (by have := CC.out.size; omega) HZ.out).mono ?_
            rintro e v4 ⟨rfl, hw⟩
            simp only [six]
            have CN : Hid (Below w1.heap.size w1 v4) := bt CC.out hw
            clear hw
            clear CC
            have CC := CN
            clear CN
            have hy4 := CC.out.size
            try go_wp2_with fail
            refine hK.out _ _ (KP.out _ CC.out) (fun hHeld => ?_)
            clear hK KK
            try simp only [Act.put, List.getElem_toArray, List.getElem_cons_succ, List.getElem_cons_zero, List.setIfInBounds_toArray, List.set_cons_zero, List.set_cons_succ]
            refine wpAnyH_take (i := 12) (v := .agg #[.string nm, .int .i64 0, .bool en, .int .i64 (decR s0), .int .i64 0, .int .i64 (decR s2), .int .i64 (decR s3), .int .i64 0, .int .i64 (decR s4), .int .i64 0, .int .i64 0, .int .i64 0, .int .i64 0]) rfl (by kernel_rfl) (by kernel_rfl) (by kernel_rfl) (fun _ _ _ h => h) (Or.inl ⟨by rfl, fun W hW => by go_simp⟩) hHeld ?_
            try simp only [Act.put, List.getElem_toArray, List.getElem_cons_succ, List.getElem_cons_zero, List.setIfInBounds_toArray, List.set_cons_zero, List.set_cons_succ]
            refine wpAnyH_ready (rs := [13]) (by kernel_rfl) (by simp) ?_
            refine AllReadyH.cons rfl (fun KK hK => ?_) AllReadyH.nil
            go_simp
            obtain ⟨v5, hv'⟩ : ∃ vv, vv = v4.alloc (.cells #[.string ⟨#[]⟩, .int .i64 0, .bool false, .int .i64 0, .int .i64 0, .int .i64 0, .int .i64 0, .int .i64 0, .int .i64 0, .int .i64 0, .int .i64 0, .int .i64 0, .int .i64 0] 29) := ⟨_, rfl⟩
            rw [← hv']
            have hb : Below v4.heap.size v4 v5 := by rw [hv']; exact one_al _ _
            have BX : Hid (Box v5 v4.heap.size #[.string ⟨#[]⟩, .int .i64 0, .bool false, .int .i64 0, .int .i64 0, .int .i64 0, .int .i64 0, .int .i64 0, .int .i64 0, .int .i64 0, .int .i64 0, .int .i64 0, .int .i64 0]) := by unfold Hid; rw [hv']; exact Box.new _ _ _ _ rfl
            clear hv'
            replace CC : Hid (Below w1.heap.size w1 v5) := bt CC.out hb
            clear hb
            have hy5 := CC.out.size
            have hx5 := BX.out.lt
            refine hK.out _ _ (KP.out _ CC.out) (fun hHeld => ?_)
            clear hK KK
            try simp only [Act.put, List.getElem_toArray, List.getElem_cons_succ, List.getElem_cons_zero, List.setIfInBounds_toArray, List.set_cons_zero, List.set_cons_succ]
            refine wpAnyH_ready (rs := [14]) (by kernel_rfl) (by simp) ?_
            refine AllReadyH.cons rfl (fun KK hK => ?_) AllReadyH.nil
            have HTH : Hid (World.there v5 (v4.heap.size) 0 13) := BX.out.there rfl
            rw [if_pos (by rfl)]
            refine wp_store_mid 29 (.tmp 5) (.tmp 24) rfl (v4.heap.size) 0 #[.string nm, .int .i64 0, .bool en, .int .i64 (decR s0), .int .i64 0, .int .i64 (decR s2), .int .i64 (decR s3), .int .i64 0, .int .i64 (decR s4), .int .i64 0, .int .i64 0, .int .i64 0, .int .i64 0] rfl rfl HTH.out Sv_sizeI (by simp [Value.oneCell']) ?_
            refine hK.out _ _ (KP.out _ (Below.sets (by omega) _ _ CC.out)) (fun hHeld => ?_)
            clear hK KK
            try simp only [Act.put, List.getElem_toArray, List.getElem_cons_succ, List.getElem_cons_zero]
            refine wpAnyH_done (by kernel_rfl) ?_ _
            go_wp2
            go_meet
            exact ⟨v4.heap.size, rfl, Below.sets (by omega) _ _ CC.out, BX.out.full rfl, by omega⟩
          ·
            go_simp
            obtain ⟨v4, hv'⟩ : ∃ vv, vv = v3.alloc (.cells #[.string ⟨#[]⟩, .int .i64 0, .bool false, .int .i64 0, .int .i64 0, .int .i64 0, .int .i64 0, .int .i64 0, .int .i64 0, .int .i64 0, .int .i64 0, .int .i64 0, .int .i64 0] 29) := ⟨_, rfl⟩
            rw [← hv']
            have hb : Below v3.heap.size v3 v4 := by rw [hv']; exact one_al _ _
            have BX : Hid (Box v4 v3.heap.size #[.string ⟨#[]⟩, .int .i64 0, .bool false, .int .i64 0, .int .i64 0, .int .i64 0, .int .i64 0, .int .i64 0, .int .i64 0, .int .i64 0, .int .i64 0, .int .i64 0, .int .i64 0]) := by unfold Hid; rw [hv']; exact Box.new _ _ _ _ rfl
            clear hv'
            replace CC : Hid (Below w1.heap.size w1 v4) := bt CC.out hb
            clear hb
            have hy4 := CC.out.size
            have hx4 := BX.out.lt
            refine hK.out _ _ (KP.out _ CC.out) (fun hHeld => ?_)
            clear hK KK
            try simp only [Act.put, List.getElem_toArray, List.getElem_cons_succ, List.getElem_cons_zero, List.setIfInBounds_toArray, List.set_cons_zero, List.set_cons_succ]
            refine wpAnyH_ready (rs := [11]) (by kernel_rfl) (by simp) ?_
            refine AllReadyH.cons rfl (fun KK hK => ?_) AllReadyH.nil
            go_simp
            refine (hallNumber_any kind nm team en hv ver vb vo vc s0 s1 s2 s3 s4 s5 _ 4 (by omega) (H61.out.below CC.out hvb1) (by have := CC.out.size; omega) HZ.out).mono ?_
            rintro e v5 ⟨rfl, hw⟩
            simp only [six]
            have CN : Hid (Below w1.heap.size w1 v5) := bt CC.out hw
            replace BX : Hid (Box v5 (v3.heap.size) #[.string ⟨#[]⟩, .int .i64 0, .bool false, .int .i64 0, .int .i64 0, .int .i64 0, .int .i64 0, .int .i64 0, .int .i64 0, .int .i64 0, .int .i64 0, .int .i64 0, .int .i64 0]) := by unfold Hid; exact BX.out.on hw
            clear hw
            clear CC
            have CC := CN
            clear CN
            have hy5 := CC.out.size
            try go_wp2_with fail
            have hx5 := BX.out.lt
            refine hK.out _ _ (KP.out _ CC.out) (fun hHeld => ?_)
            clear hK KK
            try simp only [Act.put, List.getElem_toArray, List.getElem_cons_succ, List.getElem_cons_zero, List.setIfInBounds_toArray, List.set_cons_zero, List.set_cons_succ]
            refine wpAnyH_take (i := 12) (v := .agg #[.string nm, .int .i64 0, .bool en, .int .i64 (decR s0), .int .i64 0, .int .i64 (decR s2), .int .i64 (decR s3), .int .i64 0, .int .i64 (decR s4), .int .i64 0, .int .i64 0, .int .i64 0, .int .i64 0]) rfl (by kernel_rfl) (by kernel_rfl) (by kernel_rfl) (fun _ _ _ h => h) (Or.inl ⟨by rfl, fun W hW => by go_simp⟩) hHeld ?_
            try simp only [Act.put, List.getElem_toArray, List.getElem_cons_succ, List.getElem_cons_zero, List.setIfInBounds_toArray, List.set_cons_zero, List.set_cons_succ]
            refine wpAnyH_ready (rs := [14]) (by kernel_rfl) (by simp) ?_
            refine AllReadyH.cons rfl (fun KK hK => ?_) AllReadyH.nil
            have HTH : Hid (World.there v5 (v3.heap.size) 0 13) := BX.out.there rfl
            rw [if_pos (by rfl)]
            refine wp_store_mid 29 (.tmp 5) (.tmp 24) rfl (v3.heap.size) 0 #[.string nm, .int .i64 0, .bool en, .int .i64 (decR s0), .int .i64 0, .int .i64 (decR s2), .int .i64 (decR s3), .int .i64 0, .int .i64 (decR s4), .int .i64 0, .int .i64 0, .int .i64 0, .int .i64 0] rfl rfl HTH.out Sv_sizeI (by simp [Value.oneCell']) ?_
            refine hK.out _ _ (KP.out _ (Below.sets (by omega) _ _ CC.out)) (fun hHeld => ?_)
            clear hK KK
            try simp only [Act.put, List.getElem_toArray, List.getElem_cons_succ, List.getElem_cons_zero]
            refine wpAnyH_done (by kernel_rfl) ?_ _
            go_wp2
            go_meet
            exact ⟨v3.heap.size, rfl, Below.sets (by omega) _ _ CC.out, BX.out.full rfl, by omega⟩
        ·
          go_simp
          obtain ⟨v3, hv'⟩ : ∃ vv, vv = v2.alloc (.cells #[.string ⟨#[]⟩, .int .i64 0, .bool false, .int .i64 0, .int .i64 0, .int .i64 0, .int .i64 0, .int .i64 0, .int .i64 0, .int .i64 0, .int .i64 0, .int .i64 0, .int .i64 0] 29) := ⟨_, rfl⟩
          rw [← hv']
          have hb : Below v2.heap.size v2 v3 := by rw [hv']; exact one_al _ _
          have BX : Hid (Box v3 v2.heap.size #[.string ⟨#[]⟩, .int .i64 0, .bool false, .int .i64 0, .int .i64 0, .int .i64 0, .int .i64 0, .int .i64 0, .int .i64 0, .int .i64 0, .int .i64 0, .int .i64 0, .int .i64 0]) := by unfold Hid; rw [hv']; exact Box.new _ _ _ _ rfl
          clear hv'
          replace CC : Hid (Below w1.heap.size w1 v3) := bt CC.out hb
          clear hb
          have hy3 := CC.out.size
          have hx3 := BX.out.lt
          refine hK.out _ _ (KP.out _ CC.out) (fun hHeld => ?_)
          clear hK KK
          try simp only [Act.put, List.getElem_toArray, List.getElem_cons_succ, List.getElem_cons_zero, List.setIfInBounds_toArray, List.set_cons_zero, List.set_cons_succ]
          refine wpAnyH_ready (rs := [9]) (by kernel_rfl) (by simp) ?_
          refine AllReadyH.cons rfl (fun KK hK => ?_) AllReadyH.nil
          go_simp
          refine (hallNumber_any kind nm team en hv ver vb vo vc s0 s1 s2 s3 s4 s5 _ 3 (by omega) (H61.out.below CC.out hvb1) (by have := CC.out.size; omega) HZ.out).mono ?_
          rintro e v4 ⟨rfl, hw⟩
          simp only [six]
          have CN : Hid (Below w1.heap.size w1 v4) := bt CC.out hw
          replace BX : Hid (Box v4 (v2.heap.size) #[.string ⟨#[]⟩, .int .i64 0, .bool false, .int .i64 0, .int .i64 0, .int .i64 0, .int .i64 0, .int .i64 0, .int .i64 0, .int .i64 0, .int .i64 0, .int .i64 0, .int .i64 0]) := by unfold Hid; exact BX.out.on hw
          clear hw
          clear CC
          have CC := CN
          clear CN
          have hy4 := CC.out.size
          try go_wp2_with fail
          have hx4 := BX.out.lt
          refine hK.out _ _ (KP.out _ CC.out) (fun hHeld => ?_)
          clear hK KK
          try simp only [Act.put, List.getElem_toArray, List.getElem_cons_succ, List.getElem_cons_zero, List.setIfInBounds_toArray, List.set_cons_zero, List.set_cons_succ]
          refine wpAnyH_ready (rs := [11]) (by kernel_rfl) (by simp) ?_
          refine AllReadyH.cons rfl (fun KK hK => ?_) AllReadyH.nil
          go_simp
          refine (hallNumber_any kind nm team en hv ver vb vo vc s0 s1 s2 s3 s4 s5 _ 4 (by omega) (H61.out.below CC.out hvb1) (by have := CC.out.size; omega) HZ.out).mono ?_
          rintro e v5 ⟨rfl, hw⟩
          simp only [six]
          have CN : Hid (Below w1.heap.size w1 v5) := bt CC.out hw
          replace BX : Hid (Box v5 (v2.heap.size) #[.string ⟨#[]⟩, .int .i64 0, .bool false, .int .i64 0, .int .i64 0, .int .i64 0, .int .i64 0, .int .i64 0, .int .i64 0, .int .i64 0, .int .i64 0, .int .i64 0, .int .i64 0]) := by unfold Hid; exact BX.out.on hw
          clear hw
          clear CC
          have CC := CN
          clear CN
          have hy5 := CC.out.size
          try go_wp2_with fail
          have hx5 := BX.out.lt
          refine hK.out _ _ (KP.out _ CC.out) (fun hHeld => ?_)
          clear hK KK
          try simp only [Act.put, List.getElem_toArray, List.getElem_cons_succ, List.getElem_cons_zero, List.setIfInBounds_toArray, List.set_cons_zero, List.set_cons_succ]
          refine wpAnyH_take (i := 12) (v := .agg #[.string nm, .int .i64 0, .bool en, .int .i64 (decR s0), .int .i64 0, .int .i64 (decR s2), .int .i64 (decR s3), .int .i64 0, .int .i64 (decR s4), .int .i64 0, .int .i64 0, .int .i64 0, .int .i64 0]) rfl (by kernel_rfl) (by kernel_rfl) (by kernel_rfl) (fun _ _ _ h => h) (Or.inl ⟨by rfl, fun W hW => by go_simp⟩) hHeld ?_
          try simp only [Act.put, List.getElem_toArray, List.getElem_cons_succ, List.getElem_cons_zero, List.setIfInBounds_toArray, List.set_cons_zero, List.set_cons_succ]
          refine wpAnyH_ready (rs := [14]) (by kernel_rfl) (by simp) ?_
          refine AllReadyH.cons rfl (fun KK hK => ?_) AllReadyH.nil
          have HTH : Hid (World.there v5 (v2.heap.size) 0 13) := BX.out.there rfl
          rw [if_pos (by rfl)]
          refine wp_store_mid 29 (.tmp 5) (.tmp 24) rfl (v2.heap.size) 0 #[.string nm, .int .i64 0, .bool en, .int .i64 (decR s0), .int .i64 0, .int .i64 (decR s2), .int .i64 (decR s3), .int .i64 0, .int .i64 (decR s4), .int .i64 0, .int .i64 0, .int .i64 0, .int .i64 0] rfl rfl HTH.out Sv_sizeI (by simp [Value.oneCell']) ?_
          refine hK.out _ _ (KP.out _ (Below.sets (by omega) _ _ CC.out)) (fun hHeld => ?_)
          clear hK KK
          try simp only [Act.put, List.getElem_toArray, List.getElem_cons_succ, List.getElem_cons_zero]
          refine wpAnyH_done (by kernel_rfl) ?_ _
          go_wp2
          go_meet
          exact ⟨v2.heap.size, rfl, Below.sets (by omega) _ _ CC.out, BX.out.full rfl, by omega⟩
      ·
        go_simp
        obtain ⟨v2, hv'⟩ : ∃ vv, vv = v1.alloc (.cells #[.string ⟨#[]⟩, .int .i64 0, .bool false, .int .i64 0, .int .i64 0, .int .i64 0, .int .i64 0, .int .i64 0, .int .i64 0, .int .i64 0, .int .i64 0, .int .i64 0, .int .i64 0] 29) := ⟨_, rfl⟩
        rw [← hv']
        have hb : Below v1.heap.size v1 v2 := by rw [hv']; exact one_al _ _
        have BX : Hid (Box v2 v1.heap.size #[.string ⟨#[]⟩, .int .i64 0, .bool false, .int .i64 0, .int .i64 0, .int .i64 0, .int .i64 0, .int .i64 0, .int .i64 0, .int .i64 0, .int .i64 0, .int .i64 0, .int .i64 0]) := by unfold Hid; rw [hv']; exact Box.new _ _ _ _ rfl
        clear hv'
        replace CC : Hid (Below w1.heap.size w1 v2) := bt CC.out hb
        clear hb
        have hy2 := CC.out.size
        have hx2 := BX.out.lt
        refine hK.out _ _ (KP.out _ CC.out) (fun hHeld => ?_)
        clear hK KK
        try simp only [Act.put, List.getElem_toArray, List.getElem_cons_succ, List.getElem_cons_zero, List.setIfInBounds_toArray, List.set_cons_zero, List.set_cons_succ]
        refine wpAnyH_ready (rs := [7]) (by kernel_rfl) (by simp) ?_
        refine AllReadyH.cons rfl (fun KK hK => ?_) AllReadyH.nil
        go_simp
        refine (hallNumber_any kind nm team en hv ver vb vo vc s0 s1 s2 s3 s4 s5 _ 2 (by omega) (H61.out.below CC.out hvb1) (by have := CC.out.size; omega) HZ.out).mono ?_
        rintro e v3 ⟨rfl, hw⟩
        simp only [six]
        have CN : Hid (Below w1.heap.size w1 v3) := bt CC.out hw
        replace BX : Hid (Box v3 (v1.heap.size) #[.string ⟨#[]⟩, .int .i64 0, .bool false, .int .i64 0, .int .i64 0, .int .i64 0, .int .i64 0, .int .i64 0, .int .i64 0, .int .i64 0, .int .i64 0, .int .i64 0, .int .i64 0]) := by unfold Hid; exact BX.out.on hw
        clear hw
        clear CC
        have CC := CN
        clear CN
        have hy3 := CC.out.size
        try go_wp2_with fail
        have hx3 := BX.out.lt
        refine hK.out _ _ (KP.out _ CC.out) (fun hHeld => ?_)
        clear hK KK
        try simp only [Act.put, List.getElem_toArray, List.getElem_cons_succ, List.getElem_cons_zero, List.setIfInBounds_toArray, List.set_cons_zero, List.set_cons_succ]
        refine wpAnyH_ready (rs := [9]) (by kernel_rfl) (by simp) ?_
        refine AllReadyH.cons rfl (fun KK hK => ?_) AllReadyH.nil
        go_simp
        refine (hallNumber_any kind nm team en hv ver vb vo vc s0 s1 s2 s3 s4 s5 _ 3 (by omega) (H61.out.below CC.out hvb1) (by have := CC.out.size; omega) HZ.out).mono ?_
        rintro e v4 ⟨rfl, hw⟩
        simp only [six]
        have CN : Hid (Below w1.heap.size w1 v4) := bt CC.out hw
        replace BX : Hid (Box v4 (v1.heap.size) #[.string ⟨#[]⟩, .int .i64 0, .bool false, .int .i64 0, .int .i64 0, .int .i64 0, .int .i64 0, .int .i64 0, .int .i64 0, .int .i64 0, .int .i64 0, .int .i64 0, .int .i64 0]) := by unfold Hid; exact BX.out.on hw
        clear hw
        clear CC
        have CC := CN
        clear CN
        have hy4 := CC.out.size
        try go_wp2_with fail
        have hx4 := BX.out.lt
        refine hK.out _ _ (KP.out _ CC.out) (fun hHeld => ?_)
        clear hK KK
        try simp only [Act.put, List.getElem_toArray, List.getElem_cons_succ, List.getElem_cons_zero, List.setIfInBounds_toArray, List.set_cons_zero, List.set_cons_succ]
        refine wpAnyH_ready (rs := [11]) (by kernel_rfl) (by simp) ?_
        refine AllReadyH.cons rfl (fun KK hK => ?_) AllReadyH.nil
        go_simp
        refine (hallNumber_any kind nm team en hv ver vb vo vc s0 s1 s2 s3 s4 s5 _ 4 (by omega) (H61.out.below CC.out hvb1) (by have := CC.out.size; omega) HZ.out).mono ?_
        rintro e v5 ⟨rfl, hw⟩
        simp only [six]
        have CN : Hid (Below w1.heap.size w1 v5) := bt CC.out hw
        replace BX : Hid (Box v5 (v1.heap.size) #[.string ⟨#[]⟩, .int .i64 0, .bool false, .int .i64 0, .int .i64 0, .int .i64 0, .int .i64 0, .int .i64 0, .int .i64 0, .int .i64 0, .int .i64 0, .int .i64 0, .int .i64 0]) := by unfold Hid; exact BX.out.on hw
        clear hw
        clear CC
        have CC := CN
        clear CN
        have hy5 := CC.out.size
        try go_wp2_with fail
        have hx5 := BX.out.lt
        refine hK.out _ _ (KP.out _ CC.out) (fun hHeld => ?_)
        clear hK KK
        try simp only [Act.put, List.getElem_toArray, List.getElem_cons_succ, List.getElem_cons_zero, List.setIfInBounds_toArray, List.set_cons_zero, List.set_cons_succ]
        refine wpAnyH_take (i := 12) (v := .agg #[.string nm, .int .i64 0, .bool en, .int .i64 (decR s0), .int .i64 0, .int .i64 (decR s2), .int .i64 (decR s3), .int .i64 0, .int .i64 (decR s4), .int .i64 0, .int .i64 0, .int .i64 0, .int .i64 0]) rfl (by kernel_rfl) (by kernel_rfl) (by kernel_rfl) (fun _ _ _ h => h) (Or.inl ⟨by rfl, fun W hW => by go_simp⟩) hHeld ?_
        try simp only [Act.put, List.getElem_toArray, List.getElem_cons_succ, List.getElem_cons_zero, List.setIfInBounds_toArray, List.set_cons_zero, List.set_cons_succ]
        refine wpAnyH_ready (rs := [14]) (by kernel_rfl) (by simp) ?_
        refine AllReadyH.cons rfl (fun KK hK => ?_) AllReadyH.nil
        have HTH : Hid (World.there v5 (v1.heap.size) 0 13) := BX.out.there rfl
        rw [if_pos (by rfl)]
        refine wp_store_mid 29 (.tmp 5) (.tmp 24) rfl (v1.heap.size) 0 #[.string nm, .int .i64 0, .bool en, .int .i64 (decR s0), .int .i64 0, .int .i64 (decR s2), .int .i64 (decR s3), .int .i64 0, .int .i64 (decR s4), .int .i64 0, .int .i64 0, .int .i64 0, .int .i64 0] rfl rfl HTH.out Sv_sizeI (by simp [Value.oneCell']) ?_
        refine hK.out _ _ (KP.out _ (Below.sets (by omega) _ _ CC.out)) (fun hHeld => ?_)
        clear hK KK
        try simp only [Act.put, List.getElem_toArray, List.getElem_cons_succ, List.getElem_cons_zero]
        refine wpAnyH_done (by kernel_rfl) ?_ _
        go_wp2
        go_meet
        exact ⟨v1.heap.size, rfl, Below.sets (by omega) _ _ CC.out, BX.out.full rfl, by omega⟩
    ·
      go_simp
      obtain ⟨v1, hv'⟩ : ∃ vv, vv = (w1.alloc (.cells #[.string ⟨#[]⟩, .int .i64 0, .bool false, .int .i64 0, .int .i64 0, .int .i64 0, .int .i64 0, .int .i64 0, .int .i64 0, .int .i64 0, .int .i64 0, .int .i64 0, .int .i64 0] 29)).drew := ⟨_, rfl⟩
      rw [← hv']
      have hb : Below w1.heap.size w1 v1 := by rw [hv']; exact (one_al _ _).drew
      have BX : Hid (Box v1 w1.heap.size #[.string ⟨#[]⟩, .int .i64 0, .bool false, .int .i64 0, .int .i64 0, .int .i64 0, .int .i64 0, .int .i64 0, .int .i64 0, .int .i64 0, .int .i64 0, .int .i64 0, .int .i64 0]) := by unfold Hid; rw [hv']; exact (Box.new _ _ _ _ rfl).drew
      clear hv'
      have CC : Hid (Below w1.heap.size w1 v1) := hb
      clear hb
      have hy1 := CC.out.size
      have hx1 := BX.out.lt
      refine hK.out _ _ (KP.out _ CC.out) (fun hHeld => ?_)
      clear hK KK
      try simp only [Act.put, List.getElem_toArray, List.getElem_cons_succ, List.getElem_cons_zero, List.setIfInBounds_toArray, List.set_cons_zero, List.set_cons_succ]
      refine wpAnyH_ready (rs := [5]) (by kernel_rfl) (by simp) ?_
      refine AllReadyH.cons rfl (fun KK hK => ?_) AllReadyH.nil
      go_simp
      refine (hallNumber_any kind nm team en hv ver vb vo vc s0 s1 s2 s3 s4 s5 _ 0 (by omega) (H61.out.below CC.out hvb1) (by have := CC.out.size; omega) HZ.out).mono ?_
      rintro e v2 ⟨rfl, hw⟩
      simp only [six]
      have CN : Hid (Below w1.heap.size w1 v2) := bt CC.out hw
      replace BX : Hid (Box v2 (w1.heap.size) #[.string ⟨#[]⟩, .int .i64 0, .bool false, .int .i64 0, .int .i64 0, .int .i64 0, .int .i64 0, .int .i64 0, .int .i64 0, .int .i64 0, .int .i64 0, .int .i64 0, .int .i64 0]) := by unfold Hid; exact BX.out.on hw
      clear hw
      clear CC
      have CC := CN
      clear CN
      have hy2 := CC.out.size
      try go_wp2_with fail
      have hx2 := BX.out.lt
      refine hK.out _ _ (KP.out _ CC.out) (fun hHeld => ?_)
      clear hK KK
      try simp only [Act.put, List.getElem_toArray, List.getElem_cons_succ, List.getElem_cons_zero, List.setIfInBounds_toArray, List.set_cons_zero, List.set_cons_succ]
      refine wpAnyH_ready (rs := [7]) (by kernel_rfl) (by simp) ?_
      refine AllReadyH.cons rfl (fun KK hK => ?_) AllReadyH.nil
      go_simp
      refine (hallNumber_any kind nm team en hv ver vb vo vc s0 s1 s2 s3 s4 s5 _ 2 (by omega) (H61.out.below CC.out hvb1) (by have := CC.out.size; omega) HZ.out).mono ?_
      rintro e v3 ⟨rfl, hw⟩
      simp only [six]
      have CN : Hid (Below w1.heap.size w1 v3) := bt CC.out hw
      replace BX : Hid (Box v3 (w1.heap.size) #[.string ⟨#[]⟩, .int .i64 0, .bool false, .int .i64 0, .int .i64 0, .int .i64 0, .int .i64 0, .int .i64 0, .int .i64 0, .int .i64 0, .int .i64 0, .int .i64 0, .int .i64 0]) := by unfold Hid; exact BX.out.on hw
      clear hw
      clear CC
      have CC := CN
      clear CN
      have hy3 := CC.out.size
      try go_wp2_with fail
      have hx3 := BX.out.lt
      refine hK.out _ _ (KP.out _ CC.out) (fun hHeld => ?_)
      clear hK KK
      try simp only [Act.put, List.getElem_toArray, List.getElem_cons_succ, List.getElem_cons_zero, List.setIfInBounds_toArray, List.set_cons_zero, List.set_cons_succ]
      refine wpAnyH_ready (rs := [9]) (by kernel_rfl) (by simp) ?_
      refine AllReadyH.cons rfl (fun KK hK => ?_) AllReadyH.nil
      go_simp
      refine (hallNumber_any kind nm team en hv ver vb vo vc s0 s1 s2 s3 s4 s5 _ 3 (by omega) (H61.out.below CC.out hvb1) (by have := CC.out.size; omega) HZ.out).mono ?_
      rintro e v4 ⟨rfl, hw⟩
      simp only [six]
      have CN : Hid (Below w1.heap.size w1 v4) := bt CC.out hw
      replace BX : Hid (Box v4 (w1.heap.size) #[.string ⟨#[]⟩, .int .i64 0, .bool false, .int .i64 0, .int .i64 0, .int .i64 0, .int .i64 0, .int .i64 0, .int .i64 0, .int .i64 0, .int .i64 0, .int .i64 0, .int .i64 0]) := by unfold Hid; exact BX.out.on hw
      clear hw
      clear CC
      have CC := CN
      clear CN
      have hy4 := CC.out.size
      try go_wp2_with fail
      have hx4 := BX.out.lt
      refine hK.out _ _ (KP.out _ CC.out) (fun hHeld => ?_)
      clear hK KK
      try simp only [Act.put, List.getElem_toArray, List.getElem_cons_succ, List.getElem_cons_zero, List.setIfInBounds_toArray, List.set_cons_zero, List.set_cons_succ]
      refine wpAnyH_ready (rs := [11]) (by kernel_rfl) (by simp) ?_
      refine AllReadyH.cons rfl (fun KK hK => ?_) AllReadyH.nil
      go_simp
      refine (hallNumber_any kind nm team en hv ver vb vo vc s0 s1 s2 s3 s4 s5 _ 4 (by omega) (H61.out.below CC.out hvb1) (by have := CC.out.size; omega) HZ.out).mono ?_
      rintro e v5 ⟨rfl, hw⟩
      simp only [six]
      have CN : Hid (Below w1.heap.size w1 v5) := bt CC.out hw
      replace BX : Hid (Box v5 (w1.heap.size) #[.string ⟨#[]⟩, .int .i64 0, .bool false, .int .i64 0, .int .i64 0, .int .i64 0, .int .i64 0, .int .i64 0, .int .i64 0, .int .i64 0, .int .i64 0, .int .i64 0, .int .i64 0]) := by unfold Hid; exact BX.out.on hw
      clear hw
      clear CC
      have CC := CN
      clear CN
      have hy5 := CC.out.size
      try go_wp2_with fail
      have hx5 := BX.out.lt
      refine hK.out _ _ (KP.out _ CC.out) (fun hHeld => ?_)
      clear hK KK
      try simp only [Act.put, List.getElem_toArray, List.getElem_cons_succ, List.getElem_cons_zero, List.setIfInBounds_toArray, List.set_cons_zero, List.set_cons_succ]
      refine wpAnyH_take (i := 12) (v := .agg #[.string nm, .int .i64 0, .bool en, .int .i64 (decR s0), .int .i64 0, .int .i64 (decR s2), .int .i64 (decR s3), .int .i64 0, .int .i64 (decR s4), .int .i64 0, .int .i64 0, .int .i64 0, .int .i64 0]) rfl (by kernel_rfl) (by kernel_rfl) (by kernel_rfl) (fun _ _ _ h => h) (Or.inl ⟨by rfl, fun W hW => by go_simp⟩) hHeld ?_
      try simp only [Act.put, List.getElem_toArray, List.getElem_cons_succ, List.getElem_cons_zero, List.setIfInBounds_toArray, List.set_cons_zero, List.set_cons_succ]
      refine wpAnyH_ready (rs := [14]) (by kernel_rfl) (by simp) ?_
      refine AllReadyH.cons rfl (fun KK hK => ?_) AllReadyH.nil
      have HTH : Hid (World.there v5 (w1.heap.size) 0 13) := BX.out.there rfl
      rw [if_pos (by rfl)]
      refine wp_store_mid 29 (.tmp 5) (.tmp 24) rfl (w1.heap.size) 0 #[.string nm, .int .i64 0, .bool en, .int .i64 (decR s0), .int .i64 0, .int .i64 (decR s2), .int .i64 (decR s3), .int .i64 0, .int .i64 (decR s4), .int .i64 0, .int .i64 0, .int .i64 0, .int .i64 0] rfl rfl HTH.out Sv_sizeI (by simp [Value.oneCell']) ?_
      refine hK.out _ _ (KP.out _ (Below.sets (by omega) _ _ CC.out)) (fun hHeld => ?_)
      clear hK KK
      try simp only [Act.put, List.getElem_toArray, List.getElem_cons_succ, List.getElem_cons_zero]
      refine wpAnyH_done (by kernel_rfl) ?_ _
      go_wp2
      go_meet
      exact ⟨w1.heap.size, rfl, Below.sets (by omega) _ _ CC.out, BX.out.full rfl, by omega⟩
  case rest =>
  obtain ⟨β, rfl, hbc, hX, hβ⟩ := hcut
  have H6c := hide (H61.out.below hbc hvb1)
  have o := (FO.out.on hbc).cell
  have hol := (FO.out.on hbc).lt
  have hvl : vb < wc.heap.size := by have := hbc.size; omega
  go_wp2_with fail
  refine (hallNumber_any kind nm team en hv ver vb vo vc s0 s1 s2 s3 s4 s5 _ 1 (by omega) H6c.out hvl HZ.out).mono ?_
  rintro e w2 ⟨rfl, hb2⟩
  clear o hol hvl
  have hbc2 : Below w1.heap.size w1 w2 := bt hbc hb2
  have HX2 := hX.on hb2
  have HBc : Hid (Below w.heap.size w w2) := bt HB.out hbc2
  have hq := HSZ.out
  have x := HX2.cell
  have xf := HX2.free
  have d := (FD.out.on hbc2).cell
  have r := (FR.out.on hbc2).cell
  have rf := (FR.out.on hbc2).free
  have r' : ∀ i, w2.cell? ⟨w.heap.size + 1 + 1, i, none⟩ = _ := r
  have hxl := HX2.lt
  have hrl := (FR.out.on hbc2).lt
  have hq2 : w.heap.size + 3 ≤ β := by omega
  replace HX2 := hide HX2
  have HR2 := hide (FR.out.on hbc2)
  clear hX hbc FO FD FR KP H6 H61 HB HZ hq HSZ H6c hbc2 hb2
  unfold svL at d
  have nb1 : ¬ (w.heap.size + 1 = β) := by omega
  have nb2 : ¬ (β = w.heap.size + 1) := by omega
  have nb3 : ¬ (β = w.heap.size + 1 + 1) := by omega
  have nb4 : ¬ (w.heap.size + 1 + 1 = β) := by omega
  unfold six
  by_cases h4 : decR s4 = 0
  · rw [if_pos h4] at HE
    go_wp2
    refine bodyPost_ret (v := .agg (svL R).toArray) (by rw [HE.out]; simp [results, Try.results9, go_sem, svL, r']) rfl ⟨rfl, ?_⟩
    repeat (refine Below.setCell ?_ (by simp; try omega) _)
    exact HBc.out
  · rw [if_neg h4] at HE
    clear HN4
    go_wp2
    have HM : Hid ((if old.wa < decR s1 then old.wa else decR s1) = (if decR s1 < old.wa then decR s1 else old.wa)) := by unfold Hid; split <;> split <;> omega
    rw [HM.out] at HE
    clear HM
    obtain ⟨mn, hmn⟩ : ∃ mn, (if decR s1 < old.wa then decR s1 else old.wa) = mn := ⟨_, rfl⟩
    rw [hmn] at HE
    have HMN := hide hmn
    clear hmn
    have HD : Hid (∀ W, Below β w2 W → ∀ i, W.cell? ⟨w.heap.size + 1, i, none⟩ = #[.string old.nm, .int .i64 old.ve, .bool old.gn, .int .i64 old.im, .int .i64 old.wa, .int .i64 old.dn, .int .i64 old.ov, .int .i64 old.nx, .int .i64 old.pr, .int .i64 old.ls, .int .i64 old.ms, .int .i64 old.ld, .int .i64 old.cl][i]?) := fun W hW i => by rw [hW.cell (p := ⟨w.heap.size + 1, i, none⟩) (by simp; omega)]; exact d i
    refine wp_region_held_drew (S := fun W => ∀ i, W.cell? ⟨w.heap.size + 1, i, none⟩ = #[.string old.nm, .int .i64 old.ve, .bool old.gn, .int .i64 old.im, .int .i64 old.wa, .int .i64 old.dn, .int .i64 old.ov, .int .i64 old.nx, .int .i64 old.pr, .int .i64 old.ls, .int .i64 old.ms, .int .i64 old.ld, .int .i64 old.cl][i]?) (by kernel_rfl) (HD.out _ ((Below.refl _ _).drew)) (fun hHeld => ?_)
    refine wpAnyH_take (i := 0) (v := .int .i64 (decR s1)) rfl (by kernel_rfl) (by kernel_rfl) (by kernel_rfl) (fun _ _ _ h => h) (Or.inl ⟨by rfl, fun W hW => by go_simp⟩) hHeld ?_
    try simp only [Act.put, List.getElem_toArray, List.getElem_cons_zero, List.setIfInBounds_toArray, List.set_cons_zero, List.set_cons_succ]
    refine wpAnyH_take (i := 1) (v := .pointer (some ⟨w.heap.size + 1, 11, none⟩)) rfl (by kernel_rfl) (by kernel_rfl) (by kernel_rfl) (fun _ _ _ h => h) (Or.inl ⟨by rfl, fun W hW => by go_simp⟩) hHeld ?_
    try simp only [Act.put, List.getElem_toArray, List.getElem_cons_succ, List.getElem_cons_zero, List.setIfInBounds_toArray, List.set_cons_zero, List.set_cons_succ]
    refine wpAnyH_take (i := 2) (v := .int .i64 old.ld) rfl (by kernel_rfl) (by kernel_rfl) (by kernel_rfl) (fun _ _ _ h => h) (Or.inl ⟨by rfl, fun W hW => by go_simp⟩) hHeld ?_
    try simp only [Act.put, List.getElem_toArray, List.getElem_cons_succ, List.getElem_cons_zero, List.setIfInBounds_toArray, List.set_cons_zero, List.set_cons_succ]
    refine wpAnyH_take (i := 3) (v := .pointer (some ⟨w.heap.size + 1, 4, none⟩)) rfl (by kernel_rfl) (by kernel_rfl) (by kernel_rfl) (fun _ _ _ h => h) (Or.inl ⟨by rfl, fun W hW => by go_simp⟩) hHeld ?_
    try simp only [Act.put, List.getElem_toArray, List.getElem_cons_succ, List.getElem_cons_zero, List.setIfInBounds_toArray, List.set_cons_zero, List.set_cons_succ]
    refine wpAnyH_take (i := 4) (v := .int .i64 old.wa) rfl (by kernel_rfl) (by kernel_rfl) (by kernel_rfl) (fun _ _ _ h => h) (Or.inl ⟨by rfl, fun W hW => by go_simp⟩) hHeld ?_
    try simp only [Act.put, List.getElem_toArray, List.getElem_cons_succ, List.getElem_cons_zero, List.setIfInBounds_toArray, List.set_cons_zero, List.set_cons_succ]
    refine wpAnyH_take (i := 5) (v := .int .i64 (decR s1)) rfl (by kernel_rfl) (by kernel_rfl) (by kernel_rfl) (fun _ _ _ h => h) (Or.inl ⟨by rfl, fun W hW => by go_simp⟩) hHeld ?_
    try simp only [Act.put, List.getElem_toArray, List.getElem_cons_succ, List.getElem_cons_zero, List.setIfInBounds_toArray, List.set_cons_zero, List.set_cons_succ]
    refine wpAnyH_take (i := 6) (v := .int .i64 mn) rfl (by kernel_rfl) (by kernel_rfl) (by kernel_rfl) (fun _ _ _ h => h) (Or.inl ⟨by rfl, fun W hW => by go_simp; simp [go_sem, HMN.out]⟩) hHeld ?_
    try simp only [Act.put, List.getElem_toArray, List.getElem_cons_succ, List.getElem_cons_zero, List.setIfInBounds_toArray, List.set_cons_zero, List.set_cons_succ]
    refine wpAnyH_take (i := 7) (v := .pointer (some ⟨β, 10, none⟩)) rfl (by kernel_rfl) (by kernel_rfl) (by kernel_rfl) (fun _ _ _ h => h) (Or.inl ⟨by rfl, fun W hW => by go_simp⟩) hHeld ?_
    try simp only [Act.put, List.getElem_toArray, List.getElem_cons_succ, List.getElem_cons_zero, List.setIfInBounds_toArray, List.set_cons_zero, List.set_cons_succ]
    refine wpAnyH_ready (rs := [8]) (by kernel_rfl) (by simp) ?_
    refine AllReadyH.cons rfl (fun KK hK => ?_) AllReadyH.nil
    go_simp
    refine hK.out _ _ (HD.out _ (((Below.refl _ _).drew).setCell (by simp) _)) (fun hHeld => ?_)
    clear hK KK
    try simp only [Act.put, List.getElem_toArray, List.getElem_cons_succ, List.getElem_cons_zero, List.setIfInBounds_toArray, List.set_cons_zero, List.set_cons_succ]
    refine wpAnyH_take (i := 9) (v := .pointer (some ⟨β, 11, none⟩)) rfl (by kernel_rfl) (by kernel_rfl) (by kernel_rfl) (fun _ _ _ h => h) (Or.inl ⟨by rfl, fun W hW => by go_simp⟩) hHeld ?_
    try simp only [Act.put, List.getElem_toArray, List.getElem_cons_succ, List.getElem_cons_zero, List.setIfInBounds_toArray, List.set_cons_zero, List.set_cons_succ]
    refine wpAnyH_ready (rs := [10]) (by kernel_rfl) (by simp) ?_
    refine AllReadyH.cons rfl (fun KK hK => ?_) AllReadyH.nil
    go_simp
    refine hK.out _ _ (HD.out _ ((((Below.refl _ _).drew).setCell (by simp) _).setCell (by simp) _)) (fun hHeld => ?_)
    clear hK KK
    try simp only [Act.put, List.getElem_toArray, List.getElem_cons_succ, List.getElem_cons_zero, List.setIfInBounds_toArray, List.set_cons_zero, List.set_cons_succ]
    refine wpAnyH_take (i := 11) (v := .pointer (some ⟨β, 4, none⟩)) rfl (by kernel_rfl) (by kernel_rfl) (by kernel_rfl) (fun _ _ _ h => h) (Or.inl ⟨by rfl, fun W hW => by go_simp⟩) hHeld ?_
    try simp only [Act.put, List.getElem_toArray, List.getElem_cons_succ, List.getElem_cons_zero, List.setIfInBounds_toArray, List.set_cons_zero, List.set_cons_succ]
    refine wpAnyH_ready (rs := [12]) (by kernel_rfl) (by simp) ?_
    refine AllReadyH.cons rfl (fun KK hK => ?_) AllReadyH.nil
    go_simp
    refine hK.out _ _ (HD.out _ (((((Below.refl _ _).drew).setCell (by simp) _).setCell (by simp) _).setCell (by simp) _)) (fun hHeld => ?_)
    clear hK KK
    try simp only [Act.put, List.getElem_toArray, List.getElem_cons_succ, List.getElem_cons_zero, List.setIfInBounds_toArray, List.set_cons_zero, List.set_cons_succ]
    refine wpAnyH_done (by kernel_rfl) ?_ _
    generalize hW3 : World.drew _ = w3
    have B3 : Box w3 β #[.string nm, .int .i64 0, .bool en, .int .i64 (decR s0), .int .i64 mn, .int .i64 (decR s2), .int .i64 (decR s3), .int .i64 0, .int .i64 (decR s4), .int .i64 0, .int .i64 (decR s1), .int .i64 old.ld, .int .i64 0] := by rw [← hW3]; exact (((HX2.out.put 10 (by simp) _).put 11 (by simp) _).put 4 (by simp) _).drew
    have R3 : Box w3 (w.heap.size + 2) #[.string ⟨#[]⟩, .int .i64 0, .bool false, .int .i64 0, .int .i64 0, .int .i64 0, .int .i64 0, .int .i64 0, .int .i64 0, .int .i64 0, .int .i64 0, .int .i64 0, .int .i64 0] := by rw [← hW3]; exact (((HR2.out.other (by simp; omega) _).other (by simp; omega) _).other (by simp; omega) _).drew
    have C3 : Hid (Below w.heap.size w w3) := by unfold Hid; rw [← hW3]; exact (((HBc.out.setCell (by simp; omega) _).setCell (by simp; omega) _).setCell (by simp; omega) _).drew
    clear hW3 x xf r rf r' hxl hrl d HD hHeld HX2 HR2 HBc h4
    have x := B3.cell
    have hxl := B3.lt
    have r := R3.cell
    have rf := R3.free
    have hrl := R3.lt
    have r' : ∀ i, w3.cell? ⟨w.heap.size + 1 + 1, i, none⟩ = _ := r
    clear B3 R3
    generalize decR s4 = d4 at *
    generalize decR s1 = d1 at *
    generalize decR s2 = d2 at *
    generalize decR s3 = d3 at *
    generalize decR s0 = d0 at *
    go_wp2
    refine bodyPost_ret (v := .agg (svL R).toArray) (by rw [HE.out]; simp [results, Try.results9, go_sem, svL, r']) rfl ⟨rfl, ?_⟩
    repeat (refine Below.setCell ?_ (by simp; try omega) _)
    exact C3.out
end Go.Proofs.Ytgnodlkdjpnmoaa
