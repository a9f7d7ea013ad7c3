import Derived.Test.YtjkkbkdpoebfaaaGreatV21
namespace Go.Proofs.YtjkkbkdpoebfaaaGreat
open Go.RowKit Go.Deep

/-- objects in a row: their kinds and names -/
def KnAt (ρ : Nat) (w : World) (v : Value) (L : List (ByteArray × ByteArray)) : Prop :=
  (∃ (a : Option Addr) (cap : Nat), v = .slice a 0 cap ∧ L = []) ∨
  ∃ (b off cap : Nat), v = .slice (some ⟨b, off, none⟩) L.length cap ∧ L ≠ [] ∧ b < w.heap.size ∧ b ≠ ρ ∧
    ∀ i (h : i < L.length), w.cell? ⟨b, off + i * 7, none⟩ = some (.string L[i].1) ∧ w.cell? ⟨b, off + i * 7 + 1, none⟩ = some (.string L[i].2)
theorem KnAt.form {ρ : Nat} {w : World} {v : Value} {L : List (ByteArray × ByteArray)} (h : KnAt ρ w v L) : ∃ a cap, v = .slice a L.length cap := by
  rcases h with ⟨a, cap, h, rfl⟩ | ⟨b, off, cap, h, _⟩
  · exact ⟨a, cap, h⟩
  · exact ⟨_, cap, h⟩
theorem KnAt.below {ρ : Nat} {w w' : World} {v : Value} {L : List (ByteArray × ByteArray)} (h : KnAt ρ w v L) (hb : Below w.heap.size w w') : KnAt ρ w' v L := by
  rcases h with h | ⟨b, off, cap, h1, h2, h3, h4, h5⟩
  · exact Or.inl h
  · exact Or.inr ⟨b, off, cap, h1, h2, Nat.lt_of_lt_of_le h3 hb.size, h4, fun i hi => ⟨by rw [hb.cell (p := ⟨b, _, none⟩) h3]; exact (h5 i hi).1, by rw [hb.cell (p := ⟨b, _, none⟩) h3]; exact (h5 i hi).2⟩⟩
theorem KnAt.tch {ρ : Nat} {w w' : World} {v : Value} {L : List (ByteArray × ByteArray)} (h : KnAt ρ w v L) (ht : Tch ρ w w') : KnAt ρ w' v L := by
  rcases h with h | ⟨b, off, cap, h1, h2, h3, h4, h5⟩
  · exact Or.inl h
  · exact Or.inr ⟨b, off, cap, h1, h2, Nat.lt_of_lt_of_le h3 ht.size, h4, fun i hi => ⟨by rw [ht.cell (p := ⟨b, _, none⟩) h3 h4]; exact (h5 i hi).1, by rw [ht.cell (p := ⟨b, _, none⟩) h3 h4]; exact (h5 i hi).2⟩⟩

section
variable (lo ρ p : Nat) (bs : List UInt8) (nm tt df we : ByteArray) (le mo ro : Int) (mu fx : Bool) (wv : Value) (words : List ByteArray) (a0 a1 a2 : Int) (ov g1 g2 g3 : Value) (L : List (ByteArray × ByteArray)) (w : World)
def FitTo (ρ p : Nat) (bs : List UInt8) (w : World) (e : Ending) (w' : World) : Prop := ∃ s : ByteArray, e = .returned (.string s) ∧ s.size ≤ 1100000 ∧ (∃ q, p ≤ q ∧ q ≤ p + 5 ∧ Rd w' ρ q bs) ∧ Tch ρ w w'
set_option maxRecDepth 20000 in
set_option maxHeartbeats 4000000 in
theorem l1Fit1_any (hle : -1 ≤ le ∧ le ≤ 1000002) (hmo : -1 ≤ mo ∧ mo ≤ 1000001) (h : Rd w ρ p bs) (hp : p ≤ 900000000) :
    Calls Tryz.prog 86 #[.pointer (some ⟨ρ, 0, none⟩), .agg #[.string nm, .int .i64 (1), .int .i64 le, .int .i64 mo, wv, .string tt, .int .i64 ro, .bool mu, .bool fx, .string df, .string we], .agg #[.int .i64 a0, .int .i64 a1, .int .i64 a2, ov, g1, g2, g3]] w (FitTo ρ p bs w) := by
  have HRD := hide h
  have hlt := h.lt
  clear h
  go_enter Tryz.func86, Tryz.ntmps86
  by_cases hg : le < mo
  ·
    go_upto_region 4 with fail
    generalize hWa : World.alloc (World.alloc w _) _ = w1
    have HB : Hid (Below w.heap.size w w1) := by unfold Hid; rw [← hWa]; exact (one_al w _).alloc (by simp) _
    have FX : Hid (Box w1 w.heap.size #[.string nm, .int .i64 (1), .int .i64 le, .int .i64 mo, wv, .string tt, .int .i64 ro, .bool mu, .bool fx, .string df, .string we]) := by unfold Hid; rw [← hWa]; exact (Box.new _ _ _ _ rfl).on (one_al _ _)
    have FB : Hid (Box w1 (w.heap.size + 1) #[.int .i64 a0, .int .i64 a1, .int .i64 a2, ov, g1, g2, g3]) := by unfold Hid; rw [← hWa]; exact Box.new _ _ _ _ (by simp)
    clear hWa
    replace HRD := hide (HRD.out.below HB.out)
    have KP : Hid (∀ W, Tch ρ w1 W → W.cell? ⟨w.heap.size, 2, none⟩ = some (.int .i64 le) ∧ W.cell? ⟨w.heap.size, 3, none⟩ = some (.int .i64 mo)) := fun W hW => ⟨(hW.box FX.out (by omega)).cell 2, (hW.box FX.out (by omega)).cell 3⟩
    have hws : IntKind.i64.wrap (mo - le) = mo - le := by rw [IntKind.wrap_i64]; omega
    have hws' : wrap64 (mo - le) = mo - le := by unfold wrap64; omega
    refine wp_region_held_drew (S := (fun W => W.cell? ⟨w.heap.size, 2, none⟩ = some (.int .i64 le) ∧ W.cell? ⟨w.heap.size, 3, none⟩ = some (.int .i64 mo))) (by kernel_rfl) (KP.out _ (Tch.below ((Below.refl _ _).drew))) (fun hHeld => ?_)
    refine wpAnyH_take (i := 0) (v := .pointer (some ⟨w.heap.size, 2, none⟩)) rfl (by kernel_rfl) (by kernel_rfl) (by kernel_rfl) (fun _ _ _ h => h) (Or.inl ⟨by rfl, fun W hW => by obtain ⟨hq2, hq3⟩ := hW; go_simp⟩) hHeld ?_
    try simp only [Act.put, List.getElem_toArray, List.getElem_cons_zero, List.setIfInBounds_toArray, List.set_cons_zero, List.set_cons_succ]
    refine wpAnyH_take (i := 1) (v := .int .i64 le) rfl (by kernel_rfl) (by kernel_rfl) (by kernel_rfl) (fun _ _ _ h => h) (Or.inl ⟨by rfl, fun W hW => by obtain ⟨hq2, hq3⟩ := hW; go_simp⟩) hHeld ?_
    try simp only [Act.put, List.getElem_toArray, List.getElem_cons_succ, List.getElem_cons_zero, List.setIfInBounds_toArray, List.set_cons_zero, List.set_cons_succ]
    refine wpAnyH_take (i := 2) (v := .pointer (some ⟨ρ, 0, none⟩)) rfl (by kernel_rfl) (by kernel_rfl) (by kernel_rfl) (fun _ _ _ h => h) (Or.inl ⟨by rfl, fun W hW => by obtain ⟨hq2, hq3⟩ := hW; go_simp⟩) hHeld ?_
    try simp only [Act.put, List.getElem_toArray, List.getElem_cons_succ, List.getElem_cons_zero, List.setIfInBounds_toArray, List.set_cons_zero, List.set_cons_succ]
    refine wpAnyH_take (i := 4) (v := .pointer (some ⟨w.heap.size, 3, none⟩)) rfl (by kernel_rfl) (by kernel_rfl) (by kernel_rfl) (fun _ _ _ h => h) (Or.inl ⟨by rfl, fun W hW => by obtain ⟨hq2, hq3⟩ := hW; go_simp⟩) hHeld ?_
    try simp only [Act.put, List.getElem_toArray, List.getElem_cons_succ, List.getElem_cons_zero, List.setIfInBounds_toArray, List.set_cons_zero, List.set_cons_succ]
    refine wpAnyH_take (i := 5) (v := .int .i64 mo) rfl (by kernel_rfl) (by kernel_rfl) (by kernel_rfl) (fun _ _ _ h => h) (Or.inl ⟨by rfl, fun W hW => by obtain ⟨hq2, hq3⟩ := hW; go_simp⟩) hHeld ?_
    try simp only [Act.put, List.getElem_toArray, List.getElem_cons_succ, List.getElem_cons_zero, List.setIfInBounds_toArray, List.set_cons_zero, List.set_cons_succ]
    refine wpAnyH_take (i := 6) (v := .pointer (some ⟨w.heap.size, 2, none⟩)) rfl (by kernel_rfl) (by kernel_rfl) (by kernel_rfl) (fun _ _ _ h => h) (Or.inl ⟨by rfl, fun W hW => by obtain ⟨hq2, hq3⟩ := hW; go_simp⟩) hHeld ?_
    try simp only [Act.put, List.getElem_toArray, List.getElem_cons_succ, List.getElem_cons_zero, List.setIfInBounds_toArray, List.set_cons_zero, List.set_cons_succ]
    refine wpAnyH_take (i := 7) (v := .int .i64 le) rfl (by kernel_rfl) (by kernel_rfl) (by kernel_rfl) (fun _ _ _ h => h) (Or.inl ⟨by rfl, fun W hW => by obtain ⟨hq2, hq3⟩ := hW; go_simp⟩) hHeld ?_
    try simp only [Act.put, List.getElem_toArray, List.getElem_cons_succ, List.getElem_cons_zero, List.setIfInBounds_toArray, List.set_cons_zero, List.set_cons_succ]
    refine wpAnyH_take (i := 8) (v := .int .i64 (mo - le)) rfl (by kernel_rfl) (by kernel_rfl) (by kernel_rfl) (fun _ _ _ h => h) (Or.inl ⟨by rfl, fun W hW => by obtain ⟨hq2, hq3⟩ := hW; go_simp⟩) hHeld ?_
    try simp only [Act.put, List.getElem_toArray, List.getElem_cons_succ, List.getElem_cons_zero, List.setIfInBounds_toArray, List.set_cons_zero, List.set_cons_succ]
    refine wpAnyH_ready (rs := [3]) (by kernel_rfl) (by simp) ?_
    refine AllReadyH.cons rfl (fun KK hK => ?_) AllReadyH.nil
    go_simp
    refine (pick_any ρ p bs 256 _ (HRD.out.below ((Below.refl _ _).drew)) (by omega) (by decide) (by decide)).mono ?_
    rintro e w2 ⟨x, rfl, hx0, hx1, hr, ht⟩
    replace HRD := hide hr
    have HT2 : Hid (Tch ρ w1 w2) := (Tch.below ((Below.refl _ _).drew)).trans ht
    clear hr ht
    obtain ⟨d, hd⟩ : ∃ d : Nat, mo - le = (d : Int) := ⟨(mo - le).toNat, by omega⟩
    obtain ⟨y, rfl⟩ := Int.eq_ofNat_of_zero_le hx0
    have hyd : y * d ≤ 256 * 1000003 := Nat.mul_le_mul (by omega) (by omega)
    have hm0 : ((y : Int)) * (mo - le) = ((y * d : Nat) : Int) := by rw [hd]; push_cast; rfl
    obtain ⟨m, hm⟩ : ∃ m : Nat, y * d = m := ⟨_, rfl⟩
    rw [hm] at hm0 hyd
    have hwm : IntKind.i64.wrap ((y : Int) * (mo - le)) = (m : Int) := by rw [hm0, IntKind.wrap_i64]; omega
    have hwq : IntKind.i64.wrap ((m : Int) / 255) = (m : Int) / 255 := by rw [IntKind.wrap_i64]; omega
    have hwa : IntKind.i64.wrap (le + (m : Int) / 255) = le + (m : Int) / 255 := by rw [IntKind.wrap_i64]; omega
    clear hm0 hm hd
    try go_wp2_with fail
    refine hK.out _ _ (KP.out _ HT2.out) (fun hHeld => ?_)
    clear hK KK
    try simp only [Act.put, List.getElem_toArray, List.getElem_cons_succ, List.getElem_cons_zero, List.setIfInBounds_toArray, List.set_cons_zero, List.set_cons_succ]
    refine wpAnyH_take (i := 9) (v := .int .i64 (m : Int)) rfl (by kernel_rfl) (by kernel_rfl) (by kernel_rfl) (fun _ _ _ h => h) (Or.inl ⟨by rfl, fun W hW => by obtain ⟨hq2, hq3⟩ := hW; go_simp⟩) hHeld ?_
    try simp only [Act.put, List.getElem_toArray, List.getElem_cons_succ, List.getElem_cons_zero, List.setIfInBounds_toArray, List.set_cons_zero, List.set_cons_succ]
    refine wpAnyH_take (i := 10) (v := .int .i64 ((m : Int) / 255)) rfl (by kernel_rfl) (by kernel_rfl) (by kernel_rfl) (fun _ _ _ h => h) (Or.inl ⟨by rfl, fun W hW => by obtain ⟨hq2, hq3⟩ := hW; go_simp⟩) hHeld ?_
    try simp only [Act.put, List.getElem_toArray, List.getElem_cons_succ, List.getElem_cons_zero, List.setIfInBounds_toArray, List.set_cons_zero, List.set_cons_succ]
    refine wpAnyH_take (i := 11) (v := .int .i64 (le + (m : Int) / 255)) rfl (by kernel_rfl) (by kernel_rfl) (by kernel_rfl) (fun _ _ _ h => h) (Or.inl ⟨by rfl, fun W hW => by obtain ⟨hq2, hq3⟩ := hW; go_simp⟩) hHeld ?_
    try simp only [Act.put, List.getElem_toArray, List.getElem_cons_succ, List.getElem_cons_zero, List.setIfInBounds_toArray, List.set_cons_zero, List.set_cons_succ]
    refine wpAnyH_ready (rs := [12]) (by kernel_rfl) (by simp) ?_
    refine AllReadyH.cons rfl (fun KK hK => ?_) AllReadyH.nil
    go_simp
    refine (l4DecZ_any (le + (m : Int) / 255) (by omega) (by omega) _).mono ?_
    rintro e w3 ⟨s, rfl, hs, hb⟩
    have HS := hide hs
    replace HRD := hide (HRD.out.below hb)
    have HT3 : Hid (Tch ρ w1 w3) := HT2.out.trans (Tch.below hb)
    clear hs hb
    try go_wp2_with fail
    refine hK.out _ _ (KP.out _ HT3.out) (fun hHeld => ?_)
    clear hK KK
    try simp only [Act.put, List.getElem_toArray, List.getElem_cons_succ, List.getElem_cons_zero, List.setIfInBounds_toArray, List.set_cons_zero, List.set_cons_succ]
    refine wpAnyH_ready (rs := [13]) (by kernel_rfl) (by simp) ?_
    refine AllReadyH.cons rfl (fun KK hK => ?_) AllReadyH.nil
    go_simp
    refine hK.out _ _ (KP.out _ HT3.out) (fun hHeld => ?_)
    clear hK KK
    try simp only [Act.put, List.getElem_toArray, List.getElem_cons_succ, List.getElem_cons_zero, List.setIfInBounds_toArray, List.set_cons_zero, List.set_cons_succ]
    refine wpAnyH_done (by kernel_rfl) ?_ _
    go_wp2
    go_ret
    exact ⟨s, rfl, by have := HS.out; omega, ⟨p + 1, by omega, by omega, HRD.out⟩, (Tch.below (HB.out)).trans HT3.out⟩
  ·
    go_wp2_with fail
    generalize hWa : World.alloc (World.alloc w _) _ = w1
    have HB : Hid (Below w.heap.size w w1) := by unfold Hid; rw [← hWa]; exact (one_al w _).alloc (by simp) _
    have FX : Hid (Box w1 w.heap.size #[.string nm, .int .i64 (1), .int .i64 le, .int .i64 mo, wv, .string tt, .int .i64 ro, .bool mu, .bool fx, .string df, .string we]) := by unfold Hid; rw [← hWa]; exact (Box.new _ _ _ _ rfl).on (one_al _ _)
    have FB : Hid (Box w1 (w.heap.size + 1) #[.int .i64 a0, .int .i64 a1, .int .i64 a2, ov, g1, g2, g3]) := by unfold Hid; rw [← hWa]; exact Box.new _ _ _ _ (by simp)
    clear hWa
    replace HRD := hide (HRD.out.below HB.out)
    refine (l4DecZ_any le hle.1 (by omega) _).mono ?_
    rintro e w2 ⟨s, rfl, hs, hb⟩
    have HS := hide hs
    replace HRD := hide (HRD.out.below hb)
    replace HB := hide (bt HB.out hb)
    clear hs hb
    go_wp2
    go_ret
    exact ⟨s, rfl, by have := HS.out; omega, ⟨p, by omega, by omega, HRD.out⟩, Tch.below HB.out⟩
set_option maxRecDepth 20000 in
set_option maxHeartbeats 4000000 in
theorem l1Fit2_any (hw : StrsIn lo w wv words) (hl : ρ < lo) (hwn : words.length ≤ 10) (hws : ∀ s ∈ words, s.size ≤ 1000) (h : Rd w ρ p bs) (hp : p ≤ 900000000) :
    Calls Tryz.prog 86 #[.pointer (some ⟨ρ, 0, none⟩), .agg #[.string nm, .int .i64 (2), .int .i64 le, .int .i64 mo, wv, .string tt, .int .i64 ro, .bool mu, .bool fx, .string df, .string we], .agg #[.int .i64 a0, .int .i64 a1, .int .i64 a2, ov, g1, g2, g3]] w (FitTo ρ p bs w) := by
  have HW := hide hw
  have HWS := hide hws
  obtain ⟨va, vc, rfl⟩ : ∃ a c, wv = .slice a words.length c := by
    rcases hw with ⟨a, c, h, rfl⟩ | ⟨b, off, c, h, _⟩
    · exact ⟨a, c, h⟩
    · exact ⟨_, c, h⟩
  clear hw hws
  have HRD := hide h
  have hlt := h.lt
  clear h
  go_enter Tryz.func86, Tryz.ntmps86
  by_cases h0 : words.length = 0
  · have h0' : (words.length : Int) = 0 := by omega
    go_wp2
    go_ret
    exact ⟨⟨#[]⟩, rfl, by decide, ⟨p, by omega, by omega, HRD.out.below ((one_al w _).alloc (by simp) _)⟩, Tch.below ((one_al w _).alloc (by simp) _)⟩
  · have h0' : ¬ ((words.length : Int) = 0) := by omega
    go_wp2_with fail
    generalize hWa : World.alloc (World.alloc w _) _ = w1
    have HB : Hid (Below w.heap.size w w1) := by unfold Hid; rw [← hWa]; exact (one_al w _).alloc (by simp) _
    have FX : Hid (Box w1 w.heap.size #[.string nm, .int .i64 (2), .int .i64 le, .int .i64 mo, .slice va words.length vc, .string tt, .int .i64 ro, .bool mu, .bool fx, .string df, .string we]) := by unfold Hid; rw [← hWa]; exact (Box.new _ _ _ _ rfl).on (one_al _ _)
    have FB : Hid (Box w1 (w.heap.size + 1) #[.int .i64 a0, .int .i64 a1, .int .i64 a2, ov, g1, g2, g3]) := by unfold Hid; rw [← hWa]; exact Box.new _ _ _ _ (by simp)
    clear hWa
    replace HRD := hide (HRD.out.below HB.out)
    refine (ofAt_any lo ρ p bs _ words _ HRD.out (by omega) (HW.out.below HB.out) hl (by omega) (by omega)).mono ?_
    rintro e w2 ⟨⟨s, rfl, hs⟩, hr, ht⟩
    have HS := hide (HWS.out _ hs)
    have HX := hide (And.intro hr ht)
    clear hs hr ht
    go_wp2
    go_ret
    exact ⟨s, rfl, by have := HS.out; omega, ⟨p + 1, by omega, by omega, HX.out.1⟩, (Tch.below HB.out).trans HX.out.2⟩
end
end Go.Proofs.YtjkkbkdpoebfaaaGreat
