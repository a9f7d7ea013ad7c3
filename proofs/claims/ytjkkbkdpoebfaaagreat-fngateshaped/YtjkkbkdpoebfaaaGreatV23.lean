import Derived.Test.YtjkkbkdpoebfaaaGreatV22
namespace Go.Proofs.YtjkkbkdpoebfaaaGreat
open Go.RowKit Go.Deep

section
variable (lo ρ p : Nat) (bs : List UInt8) (nm tt df we : ByteArray) (le mo ro : Int) (mu fx : Bool) (wv : Value) (words : List ByteArray) (a0 a1 a2 : Int) (ov g1 g2 g3 : Value) (L : List (ByteArray × ByteArray)) (w : World)
set_option maxRecDepth 20000 in
set_option maxHeartbeats 4000000 in
theorem l1Fit3_any (hle : -1 ≤ le ∧ le ≤ 1000002) (hmo : -1 ≤ mo ∧ mo ≤ 1000001) (h : Rd w ρ p bs) (hp : p ≤ 900000000) :
    Calls Tryz.prog 86 #[.pointer (some ⟨ρ, 0, none⟩), .agg #[.string nm, .int .i64 (3), .int .i64 le, .int .i64 mo, wv, .string tt, .int .i64 ro, .bool mu, .bool fx, .string df, .string we], .agg #[.int .i64 a0, .int .i64 a1, .int .i64 a2, ov, g1, g2, g3]] w (FitTo ρ p bs w) := by
  have HRD := hide h
  have hlt := h.lt
  clear h
  go_enter Tryz.func86, Tryz.ntmps86
  go_upto_region 11 with fail
  generalize hWa : World.alloc (World.alloc w _) _ = w1
  have HB : Hid (Below w.heap.size w w1) := by unfold Hid; rw [← hWa]; exact (one_al w _).alloc (by simp) _
  have FX : Hid (Box w1 w.heap.size #[.string nm, .int .i64 (3), .int .i64 le, .int .i64 mo, wv, .string tt, .int .i64 ro, .bool mu, .bool fx, .string df, .string we]) := by unfold Hid; rw [← hWa]; exact (Box.new _ _ _ _ rfl).on (one_al _ _)
  have FB : Hid (Box w1 (w.heap.size + 1) #[.int .i64 a0, .int .i64 a1, .int .i64 a2, ov, g1, g2, g3]) := by unfold Hid; rw [← hWa]; exact Box.new _ _ _ _ (by simp)
  have HSZ1 : Hid (w1.heap.size = w.heap.size + 2) := by unfold Hid; rw [← hWa]; simp
  clear hWa
  replace HRD := hide (HRD.out.below HB.out)
  have KP : Hid (∀ W, Tch ρ w1 W → W.cell? ⟨w.heap.size, 2, none⟩ = some (.int .i64 le) ∧ W.cell? ⟨w.heap.size, 3, none⟩ = some (.int .i64 mo)) := fun W hW => ⟨(hW.box FX.out (by omega)).cell 2, (hW.box FX.out (by omega)).cell 3⟩
  have hlt1 := HRD.out.lt
  have hws : IntKind.i64.wrap (mo - le) = mo - le := by rw [IntKind.wrap_i64]; omega
  have hws2 : IntKind.i64.wrap (mo - le + 1) = mo - le + 1 := by rw [IntKind.wrap_i64]; omega
  refine wp_region_held_drew (S := (fun W => W.cell? ⟨w.heap.size, 2, none⟩ = some (.int .i64 le) ∧ W.cell? ⟨w.heap.size, 3, none⟩ = some (.int .i64 mo))) (by kernel_rfl) (KP.out _ (Tch.below ((Below.refl _ _).drew))) (fun hHeld => ?_)
  refine wpAnyH_take (i := 1) (v := .pointer (some ⟨ρ, 0, none⟩)) rfl (by kernel_rfl) (by kernel_rfl) (by kernel_rfl) (fun _ _ _ h => h) (Or.inl ⟨by rfl, fun W hW => by obtain ⟨hq2, hq3⟩ := hW; go_simp⟩) hHeld ?_
  try simp only [Act.put, List.getElem_toArray, List.getElem_cons_succ, List.getElem_cons_zero, List.setIfInBounds_toArray, List.set_cons_zero, List.set_cons_succ]
  refine wpAnyH_take (i := 5) (v := .pointer (some ⟨w.heap.size, 2, none⟩)) rfl (by kernel_rfl) (by kernel_rfl) (by kernel_rfl) (fun _ _ _ h => h) (Or.inl ⟨by rfl, fun W hW => by obtain ⟨hq2, hq3⟩ := hW; go_simp⟩) hHeld ?_
  try simp only [Act.put, List.getElem_toArray, List.getElem_cons_succ, List.getElem_cons_zero, List.setIfInBounds_toArray, List.set_cons_zero, List.set_cons_succ]
  refine wpAnyH_take (i := 6) (v := .int .i64 le) rfl (by kernel_rfl) (by kernel_rfl) (by kernel_rfl) (fun _ _ _ h => h) (Or.inl ⟨by rfl, fun W hW => by obtain ⟨hq2, hq3⟩ := hW; go_simp⟩) hHeld ?_
  try simp only [Act.put, List.getElem_toArray, List.getElem_cons_succ, List.getElem_cons_zero, List.setIfInBounds_toArray, List.set_cons_zero, List.set_cons_succ]
  refine wpAnyH_take (i := 7) (v := .pointer (some ⟨ρ, 0, none⟩)) rfl (by kernel_rfl) (by kernel_rfl) (by kernel_rfl) (fun _ _ _ h => h) (Or.inl ⟨by rfl, fun W hW => by obtain ⟨hq2, hq3⟩ := hW; go_simp⟩) hHeld ?_
  try simp only [Act.put, List.getElem_toArray, List.getElem_cons_succ, List.getElem_cons_zero, List.setIfInBounds_toArray, List.set_cons_zero, List.set_cons_succ]
  refine wpAnyH_take (i := 8) (v := .pointer (some ⟨w.heap.size, 3, none⟩)) rfl (by kernel_rfl) (by kernel_rfl) (by kernel_rfl) (fun _ _ _ h => h) (Or.inl ⟨by rfl, fun W hW => by obtain ⟨hq2, hq3⟩ := hW; go_simp⟩) hHeld ?_
  try simp only [Act.put, List.getElem_toArray, List.getElem_cons_succ, List.getElem_cons_zero, List.setIfInBounds_toArray, List.set_cons_zero, List.set_cons_succ]
  refine wpAnyH_take (i := 9) (v := .int .i64 mo) rfl (by kernel_rfl) (by kernel_rfl) (by kernel_rfl) (fun _ _ _ h => h) (Or.inl ⟨by rfl, fun W hW => by obtain ⟨hq2, hq3⟩ := hW; go_simp⟩) hHeld ?_
  try simp only [Act.put, List.getElem_toArray, List.getElem_cons_succ, List.getElem_cons_zero, List.setIfInBounds_toArray, List.set_cons_zero, List.set_cons_succ]
  refine wpAnyH_take (i := 10) (v := .pointer (some ⟨w.heap.size, 2, none⟩)) rfl (by kernel_rfl) (by kernel_rfl) (by kernel_rfl) (fun _ _ _ h => h) (Or.inl ⟨by rfl, fun W hW => by obtain ⟨hq2, hq3⟩ := hW; go_simp⟩) hHeld ?_
  try simp only [Act.put, List.getElem_toArray, List.getElem_cons_succ, List.getElem_cons_zero, List.setIfInBounds_toArray, List.set_cons_zero, List.set_cons_succ]
  refine wpAnyH_take (i := 11) (v := .int .i64 le) rfl (by kernel_rfl) (by kernel_rfl) (by kernel_rfl) (fun _ _ _ h => h) (Or.inl ⟨by rfl, fun W hW => by obtain ⟨hq2, hq3⟩ := hW; go_simp⟩) hHeld ?_
  try simp only [Act.put, List.getElem_toArray, List.getElem_cons_succ, List.getElem_cons_zero, List.setIfInBounds_toArray, List.set_cons_zero, List.set_cons_succ]
  refine wpAnyH_take (i := 12) (v := .int .i64 (mo - le)) rfl (by kernel_rfl) (by kernel_rfl) (by kernel_rfl) (fun _ _ _ h => h) (Or.inl ⟨by rfl, fun W hW => by obtain ⟨hq2, hq3⟩ := hW; go_simp⟩) hHeld ?_
  try simp only [Act.put, List.getElem_toArray, List.getElem_cons_succ, List.getElem_cons_zero, List.setIfInBounds_toArray, List.set_cons_zero, List.set_cons_succ]
  refine wpAnyH_take (i := 13) (v := .int .i64 (mo - le + 1)) rfl (by kernel_rfl) (by kernel_rfl) (by kernel_rfl) (fun _ _ _ h => h) (Or.inl ⟨by rfl, fun W hW => by obtain ⟨hq2, hq3⟩ := hW; go_simp⟩) hHeld ?_
  try simp only [Act.put, List.getElem_toArray, List.getElem_cons_succ, List.getElem_cons_zero, List.setIfInBounds_toArray, List.set_cons_zero, List.set_cons_succ]
  refine wpAnyH_ready (rs := [0, 2]) (by kernel_rfl) (by simp) ?_
  refine AllReadyH.cons rfl (fun KK hK => ?_) (AllReadyH.cons rfl (fun KK hK => ?_) AllReadyH.nil)
  ·
    go_simp
    obtain ⟨v2, hv'⟩ : ∃ vv, vv = (w1.alloc (.cells #[.string ⟨#[116]⟩, .string ⟨#[126]⟩, .string ⟨#[33]⟩] 9)).drew := ⟨_, rfl⟩
    rw [← hv']
    have hb : Below w1.heap.size w1 v2 := by rw [hv']; exact (one_al _ _).drew
    have BX : Hid (Box v2 w1.heap.size #[.string ⟨#[116]⟩, .string ⟨#[126]⟩, .string ⟨#[33]⟩]) := by unfold Hid; rw [hv']; exact (Box.new _ _ _ _ rfl).drew
    clear hv'
    have hal : ρ < w1.heap.size := HRD.out.lt
    replace HRD := hide (HRD.out.below hb)
    have HT : Hid (Tch ρ w1 v2) := Tch.below hb
    clear hb
    refine hK.out _ _ (KP.out _ HT.out) (fun hHeld => ?_)
    clear hK KK
    try simp only [Act.put, List.getElem_toArray, List.getElem_cons_succ, List.getElem_cons_zero, List.setIfInBounds_toArray, List.set_cons_zero, List.set_cons_succ]
    refine wpAnyH_ready (rs := [2]) (by kernel_rfl) (by simp) ?_
    refine AllReadyH.cons rfl (fun KK hK => ?_) AllReadyH.nil
    go_simp
    refine (pick_any ρ _ bs 3 _ HRD.out (by omega) (by decide) (by decide)).mono ?_
    rintro e v3 ⟨x, rfl, hx0, hx1, hr, ht⟩
    obtain ⟨n, rfl⟩ := Int.eq_ofNat_of_zero_le hx0
    replace HRD := hide hr
    replace HT : Hid (Tch ρ w1 v3) := HT.out.trans ht
    replace BX := hide (ht.box BX.out (by omega))
    clear hr ht
    try go_wp2_with fail
    refine hK.out _ _ (KP.out _ HT.out) (fun hHeld => ?_)
    clear hK KK
    try simp only [Act.put, List.getElem_toArray, List.getElem_cons_succ, List.getElem_cons_zero, List.setIfInBounds_toArray, List.set_cons_zero, List.set_cons_succ]
    have hn3 : (n : Int) < 3 := by omega
    refine wpAnyH_take (i := 3) (v := .pointer (some ⟨w1.heap.size, n, none⟩)) rfl (by kernel_rfl) (by kernel_rfl) (by kernel_rfl) (fun _ _ _ h => h) (Or.inl ⟨by rfl, fun W hW => by go_simp⟩) hHeld ?_
    try simp only [Act.put, List.getElem_toArray, List.getElem_cons_succ, List.getElem_cons_zero, List.setIfInBounds_toArray, List.set_cons_zero, List.set_cons_succ]
    refine wpAnyH_ready (rs := [4, 14]) (by kernel_rfl) (by simp) ?_
    refine AllReadyH.cons rfl (fun KK hK => ?_) (AllReadyH.cons rfl (fun KK hK => ?_) AllReadyH.nil)
    ·
      obtain ⟨sx, hsx, hss⟩ : ∃ sx : ByteArray, v3.cell? ⟨w1.heap.size, n, none⟩ = some (.string sx) ∧ sx.size ≤ 1 := by
        have h3 : n = 0 ∨ n = 1 ∨ n = 2 := by omega
        rcases h3 with rfl | rfl | rfl
        · exact ⟨_, BX.out.cell 0, by decide⟩
        · exact ⟨_, BX.out.cell 1, by decide⟩
        · exact ⟨_, BX.out.cell 2, by decide⟩
      have HSS := hide hss
      go_simp
      clear hsx hss
      refine hK.out _ _ (KP.out _ HT.out) (fun hHeld => ?_)
      clear hK KK
      try simp only [Act.put, List.getElem_toArray, List.getElem_cons_succ, List.getElem_cons_zero, List.setIfInBounds_toArray, List.set_cons_zero, List.set_cons_succ]
      refine wpAnyH_ready (rs := [14]) (by kernel_rfl) (by simp) ?_
      refine AllReadyH.cons rfl (fun KK hK => ?_) AllReadyH.nil
      go_simp
      refine (pickZ_any ρ _ bs (mo - le + 1) _ HRD.out (by omega) (by omega)).mono ?_
      rintro e v4 ⟨y, rfl, hy0, hy1, hr, ht⟩
      have hwy : IntKind.i64.wrap (le + y) = le + y := by rw [IntKind.wrap_i64]; omega
      replace HRD := hide hr
      replace HT : Hid (Tch ρ w1 v4) := HT.out.trans ht
      replace BX := hide (ht.box BX.out (by omega))
      clear hr ht
      try go_wp2_with fail
      refine hK.out _ _ (KP.out _ HT.out) (fun hHeld => ?_)
      clear hK KK
      try simp only [Act.put, List.getElem_toArray, List.getElem_cons_succ, List.getElem_cons_zero, List.setIfInBounds_toArray, List.set_cons_zero, List.set_cons_succ]
      refine wpAnyH_take (i := 15) (v := .int .i64 (le + y)) rfl (by kernel_rfl) (by kernel_rfl) (by kernel_rfl) (fun _ _ _ h => h) (Or.inl ⟨by rfl, fun W hW => by go_simp⟩) hHeld ?_
      try simp only [Act.put, List.getElem_toArray, List.getElem_cons_succ, List.getElem_cons_zero, List.setIfInBounds_toArray, List.set_cons_zero, List.set_cons_succ]
      refine wpAnyH_ready (rs := [16]) (by kernel_rfl) (by simp) ?_
      refine AllReadyH.cons rfl (fun KK hK => ?_) AllReadyH.nil
      go_simp
      refine (l1ManyZ_any sx (le + y) _ (by omega) HSS.out).mono ?_
      rintro e w9 ⟨hw9, so, rfl, hso⟩
      have := hw9.symm
      subst this
      have HSO := hide hso
      clear hso hw9
      try go_wp2_with fail
      refine hK.out _ _ (KP.out _ HT.out) (fun hHeld => ?_)
      clear hK KK
      try simp only [Act.put, List.getElem_toArray, List.getElem_cons_succ, List.getElem_cons_zero, List.setIfInBounds_toArray, List.set_cons_zero, List.set_cons_succ]
      refine wpAnyH_ready (rs := [17]) (by kernel_rfl) (by simp) ?_
      refine AllReadyH.cons rfl (fun KK hK => ?_) AllReadyH.nil
      go_simp
      refine hK.out _ _ (KP.out _ HT.out) (fun hHeld => ?_)
      clear hK KK
      try simp only [Act.put, List.getElem_toArray, List.getElem_cons_succ, List.getElem_cons_zero, List.setIfInBounds_toArray, List.set_cons_zero, List.set_cons_succ]
      refine wpAnyH_done (by kernel_rfl) ?_ _
      go_wp2
      go_ret
      exact ⟨so, rfl, by have := HSO.out; omega, ⟨p + 2, by omega, by omega, HRD.out⟩, (Tch.below HB.out).trans HT.out⟩
    ·
      go_simp
      refine (pickZ_any ρ _ bs (mo - le + 1) _ HRD.out (by omega) (by omega)).mono ?_
      rintro e v4 ⟨y, rfl, hy0, hy1, hr, ht⟩
      have hwy : IntKind.i64.wrap (le + y) = le + y := by rw [IntKind.wrap_i64]; omega
      replace HRD := hide hr
      replace HT : Hid (Tch ρ w1 v4) := HT.out.trans ht
      replace BX := hide (ht.box BX.out (by omega))
      clear hr ht
      try go_wp2_with fail
      refine hK.out _ _ (KP.out _ HT.out) (fun hHeld => ?_)
      clear hK KK
      try simp only [Act.put, List.getElem_toArray, List.getElem_cons_succ, List.getElem_cons_zero, List.setIfInBounds_toArray, List.set_cons_zero, List.set_cons_succ]
      refine wpAnyH_take (i := 15) (v := .int .i64 (le + y)) rfl (by kernel_rfl) (by kernel_rfl) (by kernel_rfl) (fun _ _ _ h => h) (Or.inl ⟨by rfl, fun W hW => by go_simp⟩) hHeld ?_
      try simp only [Act.put, List.getElem_toArray, List.getElem_cons_succ, List.getElem_cons_zero, List.setIfInBounds_toArray, List.set_cons_zero, List.set_cons_succ]
      refine wpAnyH_ready (rs := [4]) (by kernel_rfl) (by simp) ?_
      refine AllReadyH.cons rfl (fun KK hK => ?_) AllReadyH.nil
      obtain ⟨sx, hsx, hss⟩ : ∃ sx : ByteArray, v4.cell? ⟨w1.heap.size, n, none⟩ = some (.string sx) ∧ sx.size ≤ 1 := by
        have h3 : n = 0 ∨ n = 1 ∨ n = 2 := by omega
        rcases h3 with rfl | rfl | rfl
        · exact ⟨_, BX.out.cell 0, by decide⟩
        · exact ⟨_, BX.out.cell 1, by decide⟩
        · exact ⟨_, BX.out.cell 2, by decide⟩
      have HSS := hide hss
      go_simp
      clear hsx hss
      refine hK.out _ _ (KP.out _ HT.out) (fun hHeld => ?_)
      clear hK KK
      try simp only [Act.put, List.getElem_toArray, List.getElem_cons_succ, List.getElem_cons_zero, List.setIfInBounds_toArray, List.set_cons_zero, List.set_cons_succ]
      refine wpAnyH_ready (rs := [16]) (by kernel_rfl) (by simp) ?_
      refine AllReadyH.cons rfl (fun KK hK => ?_) AllReadyH.nil
      go_simp
      refine (l1ManyZ_any sx (le + y) _ (by omega) HSS.out).mono ?_
      rintro e w9 ⟨hw9, so, rfl, hso⟩
      have := hw9.symm
      subst this
      have HSO := hide hso
      clear hso hw9
      try go_wp2_with fail
      refine hK.out _ _ (KP.out _ HT.out) (fun hHeld => ?_)
      clear hK KK
      try simp only [Act.put, List.getElem_toArray, List.getElem_cons_succ, List.getElem_cons_zero, List.setIfInBounds_toArray, List.set_cons_zero, List.set_cons_succ]
      refine wpAnyH_ready (rs := [17]) (by kernel_rfl) (by simp) ?_
      refine AllReadyH.cons rfl (fun KK hK => ?_) AllReadyH.nil
      go_simp
      refine hK.out _ _ (KP.out _ HT.out) (fun hHeld => ?_)
      clear hK KK
      try simp only [Act.put, List.getElem_toArray, List.getElem_cons_succ, List.getElem_cons_zero, List.setIfInBounds_toArray, List.set_cons_zero, List.set_cons_succ]
      refine wpAnyH_done (by kernel_rfl) ?_ _
      go_wp2
      go_ret
      exact ⟨so, rfl, by have := HSO.out; omega, ⟨p + 2, by omega, by omega, HRD.out⟩, (Tch.below HB.out).trans HT.out⟩
  ·
    go_simp
    refine (pick_any ρ _ bs 3 _ (HRD.out.below ((Below.refl _ _).drew)) (by omega) (by decide) (by decide)).mono ?_
    rintro e v2 ⟨x, rfl, hx0, hx1, hr, ht⟩
    obtain ⟨n, rfl⟩ := Int.eq_ofNat_of_zero_le hx0
    replace HRD := hide hr
    have HT : Hid (Tch ρ w1 v2) := (Tch.below ((Below.refl _ _).drew)).trans ht
    clear hr ht
    try go_wp2_with fail
    refine hK.out _ _ (KP.out _ HT.out) (fun hHeld => ?_)
    clear hK KK
    try simp only [Act.put, List.getElem_toArray, List.getElem_cons_succ, List.getElem_cons_zero, List.setIfInBounds_toArray, List.set_cons_zero, List.set_cons_succ]
    refine wpAnyH_ready (rs := [0, 14]) (by kernel_rfl) (by simp) ?_
    refine AllReadyH.cons rfl (fun KK hK => ?_) (AllReadyH.cons rfl (fun KK hK => ?_) AllReadyH.nil)
    ·
      go_simp
      obtain ⟨v3, hv'⟩ : ∃ vv, vv = v2.alloc (.cells #[.string ⟨#[116]⟩, .string ⟨#[126]⟩, .string ⟨#[33]⟩] 9) := ⟨_, rfl⟩
      rw [← hv']
      have hb : Below v2.heap.size v2 v3 := by rw [hv']; exact one_al _ _
      have BX : Hid (Box v3 v2.heap.size #[.string ⟨#[116]⟩, .string ⟨#[126]⟩, .string ⟨#[33]⟩]) := by unfold Hid; rw [hv']; exact Box.new _ _ _ _ rfl
      clear hv'
      have hal : ρ < v2.heap.size := HRD.out.lt
      replace HRD := hide (HRD.out.below hb)
      replace HT : Hid (Tch ρ w1 v3) := HT.out.trans (Tch.below hb)
      clear hb
      refine hK.out _ _ (KP.out _ HT.out) (fun hHeld => ?_)
      clear hK KK
      try simp only [Act.put, List.getElem_toArray, List.getElem_cons_succ, List.getElem_cons_zero, List.setIfInBounds_toArray, List.set_cons_zero, List.set_cons_succ]
      have hn3 : (n : Int) < 3 := by omega
      refine wpAnyH_take (i := 3) (v := .pointer (some ⟨v2.heap.size, n, none⟩)) rfl (by kernel_rfl) (by kernel_rfl) (by kernel_rfl) (fun _ _ _ h => h) (Or.inl ⟨by rfl, fun W hW => by go_simp⟩) hHeld ?_
      try simp only [Act.put, List.getElem_toArray, List.getElem_cons_succ, List.getElem_cons_zero, List.setIfInBounds_toArray, List.set_cons_zero, List.set_cons_succ]
      refine wpAnyH_ready (rs := [4, 14]) (by kernel_rfl) (by simp) ?_
      refine AllReadyH.cons rfl (fun KK hK => ?_) (AllReadyH.cons rfl (fun KK hK => ?_) AllReadyH.nil)
      ·
        obtain ⟨sx, hsx, hss⟩ : ∃ sx : ByteArray, v3.cell? ⟨v2.heap.size, n, none⟩ = some (.string sx) ∧ sx.size ≤ 1 := by
          have h3 : n = 0 ∨ n = 1 ∨ n = 2 := by omega
          rcases h3 with rfl | rfl | rfl
          · exact ⟨_, BX.out.cell 0, by decide⟩
          · exact ⟨_, BX.out.cell 1, by decide⟩
          · exact ⟨_, BX.out.cell 2, by decide⟩
        have HSS := hide hss
        go_simp
        clear hsx hss
        refine hK.out _ _ (KP.out _ HT.out) (fun hHeld => ?_)
        clear hK KK
        try simp only [Act.put, List.getElem_toArray, List.getElem_cons_succ, List.getElem_cons_zero, List.setIfInBounds_toArray, List.set_cons_zero, List.set_cons_succ]
        refine wpAnyH_ready (rs := [14]) (by kernel_rfl) (by simp) ?_
        refine AllReadyH.cons rfl (fun KK hK => ?_) AllReadyH.nil
        go_simp
        refine (pickZ_any ρ _ bs (mo - le + 1) _ HRD.out (by omega) (by omega)).mono ?_
        rintro e v4 ⟨y, rfl, hy0, hy1, hr, ht⟩
        have hwy : IntKind.i64.wrap (le + y) = le + y := by rw [IntKind.wrap_i64]; omega
        replace HRD := hide hr
        replace HT : Hid (Tch ρ w1 v4) := HT.out.trans ht
        replace BX := hide (ht.box BX.out (by omega))
        clear hr ht
        try go_wp2_with fail
        refine hK.out _ _ (KP.out _ HT.out) (fun hHeld => ?_)
        clear hK KK
        try simp only [Act.put, List.getElem_toArray, List.getElem_cons_succ, List.getElem_cons_zero, List.setIfInBounds_toArray, List.set_cons_zero, List.set_cons_succ]
        refine wpAnyH_take (i := 15) (v := .int .i64 (le + y)) rfl (by kernel_rfl) (by kernel_rfl) (by kernel_rfl) (fun _ _ _ h => h) (Or.inl ⟨by rfl, fun W hW => by go_simp⟩) hHeld ?_
        try simp only [Act.put, List.getElem_toArray, List.getElem_cons_succ, List.getElem_cons_zero, List.setIfInBounds_toArray, List.set_cons_zero, List.set_cons_succ]
        refine wpAnyH_ready (rs := [16]) (by kernel_rfl) (by simp) ?_
        refine AllReadyH.cons rfl (fun KK hK => ?_) AllReadyH.nil
        go_simp
        refine (l1ManyZ_any sx (le + y) _ (by omega) HSS.out).mono ?_
        rintro e w9 ⟨hw9, so, rfl, hso⟩
        have := hw9.symm
        subst this
        have HSO := hide hso
        clear hso hw9
        try go_wp2_with fail
        refine hK.out _ _ (KP.out _ HT.out) (fun hHeld => ?_)
        clear hK KK
        try simp only [Act.put, List.getElem_toArray, List.getElem_cons_succ, List.getElem_cons_zero, List.setIfInBounds_toArray, List.set_cons_zero, List.set_cons_succ]
        refine wpAnyH_ready (rs := [17]) (by kernel_rfl) (by simp) ?_
        refine AllReadyH.cons rfl (fun KK hK => ?_) AllReadyH.nil
        go_simp
        refine hK.out _ _ (KP.out _ HT.out) (fun hHeld => ?_)
        clear hK KK
        try simp only [Act.put, List.getElem_toArray, List.getElem_cons_succ, List.getElem_cons_zero, List.setIfInBounds_toArray, List.set_cons_zero, List.set_cons_succ]
        refine wpAnyH_done (by kernel_rfl) ?_ _
        go_wp2
        go_ret
        exact ⟨so, rfl, by have := HSO.out; omega, ⟨p + 2, by omega, by omega, HRD.out⟩, (Tch.below HB.out).trans HT.out⟩
      ·
        go_simp
        refine (pickZ_any ρ _ bs (mo - le + 1) _ HRD.out (by omega) (by omega)).mono ?_
        rintro e v4 ⟨y, rfl, hy0, hy1, hr, ht⟩
        have hwy : IntKind.i64.wrap (le + y) = le + y := by rw [IntKind.wrap_i64]; omega
        replace HRD := hide hr
        replace HT : Hid (Tch ρ w1 v4) := HT.out.trans ht
        replace BX := hide (ht.box BX.out (by omega))
        clear hr ht
        try go_wp2_with fail
        refine hK.out _ _ (KP.out _ HT.out) (fun hHeld => ?_)
        clear hK KK
        try simp only [Act.put, List.getElem_toArray, List.getElem_cons_succ, List.getElem_cons_zero, List.setIfInBounds_toArray, List.set_cons_zero, List.set_cons_succ]
        refine wpAnyH_take (i := 15) (v := .int .i64 (le + y)) rfl (by kernel_rfl) (by kernel_rfl) (by kernel_rfl) (fun _ _ _ h => h) (Or.inl ⟨by rfl, fun W hW => by go_simp⟩) hHeld ?_
        try simp only [Act.put, List.getElem_toArray, List.getElem_cons_succ, List.getElem_cons_zero, List.setIfInBounds_toArray, List.set_cons_zero, List.set_cons_succ]
        refine wpAnyH_ready (rs := [4]) (by kernel_rfl) (by simp) ?_
        refine AllReadyH.cons rfl (fun KK hK => ?_) AllReadyH.nil
        obtain ⟨sx, hsx, hss⟩ : ∃ sx : ByteArray, v4.cell? ⟨v2.heap.size, n, none⟩ = some (.string sx) ∧ sx.size ≤ 1 := by
          have h3 : n = 0 ∨ n = 1 ∨ n = 2 := by omega
          rcases h3 with rfl | rfl | rfl
          · exact ⟨_, BX.out.cell 0, by decide⟩
          · exact ⟨_, BX.out.cell 1, by decide⟩
          · exact ⟨_, BX.out.cell 2, by decide⟩
        have HSS := hide hss
        go_simp
        clear hsx hss
        refine hK.out _ _ (KP.out _ HT.out) (fun hHeld => ?_)
        clear hK KK
        try simp only [Act.put, List.getElem_toArray, List.getElem_cons_succ, List.getElem_cons_zero, List.setIfInBounds_toArray, List.set_cons_zero, List.set_cons_succ]
        refine wpAnyH_ready (rs := [16]) (by kernel_rfl) (by simp) ?_
        refine AllReadyH.cons rfl (fun KK hK => ?_) AllReadyH.nil
        go_simp
        refine (l1ManyZ_any sx (le + y) _ (by omega) HSS.out).mono ?_
        rintro e w9 ⟨hw9, so, rfl, hso⟩
        have := hw9.symm
        subst this
        have HSO := hide hso
        clear hso hw9
        try go_wp2_with fail
        refine hK.out _ _ (KP.out _ HT.out) (fun hHeld => ?_)
        clear hK KK
        try simp only [Act.put, List.getElem_toArray, List.getElem_cons_succ, List.getElem_cons_zero, List.setIfInBounds_toArray, List.set_cons_zero, List.set_cons_succ]
        refine wpAnyH_ready (rs := [17]) (by kernel_rfl) (by simp) ?_
        refine AllReadyH.cons rfl (fun KK hK => ?_) AllReadyH.nil
        go_simp
        refine hK.out _ _ (KP.out _ HT.out) (fun hHeld => ?_)
        clear hK KK
        try simp only [Act.put, List.getElem_toArray, List.getElem_cons_succ, List.getElem_cons_zero, List.setIfInBounds_toArray, List.set_cons_zero, List.set_cons_succ]
        refine wpAnyH_done (by kernel_rfl) ?_ _
        go_wp2
        go_ret
        exact ⟨so, rfl, by have := HSO.out; omega, ⟨p + 2, by omega, by omega, HRD.out⟩, (Tch.below HB.out).trans HT.out⟩
    ·
      go_simp
      refine (pickZ_any ρ _ bs (mo - le + 1) _ HRD.out (by omega) (by omega)).mono ?_
      rintro e v3 ⟨y, rfl, hy0, hy1, hr, ht⟩
      have hwy : IntKind.i64.wrap (le + y) = le + y := by rw [IntKind.wrap_i64]; omega
      replace HRD := hide hr
      replace HT : Hid (Tch ρ w1 v3) := HT.out.trans ht
      clear hr ht
      try go_wp2_with fail
      refine hK.out _ _ (KP.out _ HT.out) (fun hHeld => ?_)
      clear hK KK
      try simp only [Act.put, List.getElem_toArray, List.getElem_cons_succ, List.getElem_cons_zero, List.setIfInBounds_toArray, List.set_cons_zero, List.set_cons_succ]
      refine wpAnyH_take (i := 15) (v := .int .i64 (le + y)) rfl (by kernel_rfl) (by kernel_rfl) (by kernel_rfl) (fun _ _ _ h => h) (Or.inl ⟨by rfl, fun W hW => by go_simp⟩) hHeld ?_
      try simp only [Act.put, List.getElem_toArray, List.getElem_cons_succ, List.getElem_cons_zero, List.setIfInBounds_toArray, List.set_cons_zero, List.set_cons_succ]
      refine wpAnyH_ready (rs := [0]) (by kernel_rfl) (by simp) ?_
      refine AllReadyH.cons rfl (fun KK hK => ?_) AllReadyH.nil
      go_simp
      obtain ⟨v4, hv'⟩ : ∃ vv, vv = v3.alloc (.cells #[.string ⟨#[116]⟩, .string ⟨#[126]⟩, .string ⟨#[33]⟩] 9) := ⟨_, rfl⟩
      rw [← hv']
      have hb : Below v3.heap.size v3 v4 := by rw [hv']; exact one_al _ _
      have BX : Hid (Box v4 v3.heap.size #[.string ⟨#[116]⟩, .string ⟨#[126]⟩, .string ⟨#[33]⟩]) := by unfold Hid; rw [hv']; exact Box.new _ _ _ _ rfl
      clear hv'
      have hal : ρ < v3.heap.size := HRD.out.lt
      replace HRD := hide (HRD.out.below hb)
      replace HT : Hid (Tch ρ w1 v4) := HT.out.trans (Tch.below hb)
      clear hb
      refine hK.out _ _ (KP.out _ HT.out) (fun hHeld => ?_)
      clear hK KK
      try simp only [Act.put, List.getElem_toArray, List.getElem_cons_succ, List.getElem_cons_zero, List.setIfInBounds_toArray, List.set_cons_zero, List.set_cons_succ]
      have hn3 : (n : Int) < 3 := by omega
      refine wpAnyH_take (i := 3) (v := .pointer (some ⟨v3.heap.size, n, none⟩)) rfl (by kernel_rfl) (by kernel_rfl) (by kernel_rfl) (fun _ _ _ h => h) (Or.inl ⟨by rfl, fun W hW => by go_simp⟩) hHeld ?_
      try simp only [Act.put, List.getElem_toArray, List.getElem_cons_succ, List.getElem_cons_zero, List.setIfInBounds_toArray, List.set_cons_zero, List.set_cons_succ]
      refine wpAnyH_ready (rs := [4]) (by kernel_rfl) (by simp) ?_
      refine AllReadyH.cons rfl (fun KK hK => ?_) AllReadyH.nil
      obtain ⟨sx, hsx, hss⟩ : ∃ sx : ByteArray, v4.cell? ⟨v3.heap.size, n, none⟩ = some (.string sx) ∧ sx.size ≤ 1 := by
        have h3 : n = 0 ∨ n = 1 ∨ n = 2 := by omega
        rcases h3 with rfl | rfl | rfl
        · exact ⟨_, BX.out.cell 0, by decide⟩
        · exact ⟨_, BX.out.cell 1, by decide⟩
        · exact ⟨_, BX.out.cell 2, by decide⟩
      have HSS := hide hss
      go_simp
      clear hsx hss
      refine hK.out _ _ (KP.out _ HT.out) (fun hHeld => ?_)
      clear hK KK
      try simp only [Act.put, List.getElem_toArray, List.getElem_cons_succ, List.getElem_cons_zero, List.setIfInBounds_toArray, List.set_cons_zero, List.set_cons_succ]
      refine wpAnyH_ready (rs := [16]) (by kernel_rfl) (by simp) ?_
      refine AllReadyH.cons rfl (fun KK hK => ?_) AllReadyH.nil
      go_simp
      refine (l1ManyZ_any sx (le + y) _ (by omega) HSS.out).mono ?_
      rintro e w9 ⟨hw9, so, rfl, hso⟩
      have := hw9.symm
      subst this
      have HSO := hide hso
      clear hso hw9
      try go_wp2_with fail
      refine hK.out _ _ (KP.out _ HT.out) (fun hHeld => ?_)
      clear hK KK
      try simp only [Act.put, List.getElem_toArray, List.getElem_cons_succ, List.getElem_cons_zero, List.setIfInBounds_toArray, List.set_cons_zero, List.set_cons_succ]
      refine wpAnyH_ready (rs := [17]) (by kernel_rfl) (by simp) ?_
      refine AllReadyH.cons rfl (fun KK hK => ?_) AllReadyH.nil
      go_simp
      refine hK.out _ _ (KP.out _ HT.out) (fun hHeld => ?_)
      clear hK KK
      try simp only [Act.put, List.getElem_toArray, List.getElem_cons_succ, List.getElem_cons_zero, List.setIfInBounds_toArray, List.set_cons_zero, List.set_cons_succ]
      refine wpAnyH_done (by kernel_rfl) ?_ _
      go_wp2
      go_ret
      exact ⟨so, rfl, by have := HSO.out; omega, ⟨p + 2, by omega, by omega, HRD.out⟩, (Tch.below HB.out).trans HT.out⟩
end
end Go.Proofs.YtjkkbkdpoebfaaaGreat
