import Derived.Test.YtdeammfdkaomlaaGreatV49
import Derived.Test.YtdeammfdkaomlaaGreatV50
import Derived.Test.YtdeammfdkaomlaaGreatV51
import Derived.Test.YtdeammfdkaomlaaGreatV52
import Derived.Deep.RegionHeld3
namespace Go.Proofs.YtdeammfdkaomlaaGreat
open Go.RowKit Go.Deep

theorem Touch.under0 {n : Nat} {w w' : World} (h : Touch n n w w') : Below w.heap.size w w' := ⟨h.os, h.tape, h.output, h.size, fun k hk => h.block k hk (by omega)⟩
set_option maxRecDepth 20000 in
set_option maxHeartbeats 8000000 in
theorem copyHouse_any (cs : List Value) (U : Ho) (w : World) (h : HoC 0 w cs U) (hn : HoSmall U) :
    Calls Tryz.prog 34 #[.agg cs.toArray] w fun e w' => ∃ b0 m0 b1 m1, ∃ t0 t1 g0 g1 : Nat, e = .returned (.agg #[.slice b0 U.tm.length m0, .slice b1 U.gr.length m1]) ∧ Below w.heap.size w w' ∧
      TmsOwn t0 t1 w' (.slice b0 U.tm.length m0) U.tm ∧ GrsOwn g0 g1 w' (.slice b1 U.gr.length m1) U.gr ∧ w.heap.size ≤ t0 ∧ t0 ≤ t1 ∧ t1 ≤ w'.heap.size ∧ w.heap.size ≤ g0 ∧ g0 ≤ g1 ∧ g1 ≤ w'.heap.size ∧ (t1 ≤ g0 ∨ g1 ≤ t0) := by
  obtain ⟨a0, k0, a1, k1, rfl, h⟩ := h
  show Calls Tryz.prog 34 #[.agg #[.slice a0 U.tm.length k0, .slice a1 U.gr.length k1]] w _
  obtain ⟨hn0, hn1⟩ := hn
  have HLt := hide h.l0
  have HLg := hide h.l1
  have HN1 := hide hn1
  unfold TmsFew at hn0
  clear h hn1
  go_enter Tryz.func34, Tryz.ntmps34
  go_upto_region 1 with fail
  obtain ⟨wz, hwz, FX, FR, HB⟩ : ∃ wz, wz = (w.alloc (.cells #[.slice a0 U.tm.length k0, .slice a1 U.gr.length k1] 30)).alloc (.cells #[.slice none 0 0, .slice none 0 0] 30) ∧
      Hid (Box wz w.heap.size #[.slice a0 U.tm.length k0, .slice a1 U.gr.length k1]) ∧ Hid (Box wz (w.heap.size + 1) #[.slice none 0 0, .slice none 0 0]) ∧ Hid (Below w.heap.size w wz) :=
    ⟨_, rfl, (Box.new w _ _ _ rfl).on (one_al _ _), Box.new _ _ _ _ (by simp), (one_al _ _).trans ((one_al _ _).mono (by simp))⟩
  rw [← hwz]
  clear hwz
  have hz0 : w.heap.size + 2 ≤ wz.heap.size := by have := FR.out.lt; omega
  have hdz : wz.heap.size ≤ wz.drew.heap.size := Nat.le_refl _
  have hdz' : wz.drew.heap.size ≤ wz.heap.size := Nat.le_refl _
  have c0 : wz.cell? ⟨w.heap.size, 0, none⟩ = some (.slice a0 U.tm.length k0) := FX.out.cell 0
  have c1 : wz.cell? ⟨w.heap.size, 1, none⟩ = some (.slice a1 U.gr.length k1) := FX.out.cell 1
  have XX : Hid (Below wz.heap.size wz wz.drew) := (Below.refl _ _).drew
  refine wp_region_held_drew (S := fun W => W.cell? ⟨w.heap.size, 0, none⟩ = some (.slice a0 U.tm.length k0) ∧ W.cell? ⟨w.heap.size, 1, none⟩ = some (.slice a1 U.gr.length k1)) (by kernel_rfl) ⟨c0, c1⟩ (fun hHeld => ?_)
  refine wpAnyH_take (i := 0) (v := .pointer (some ⟨w.heap.size, 0, none⟩)) rfl (by kernel_rfl) (by kernel_rfl) (by kernel_rfl) (fun _ _ _ h => h) (Or.inl ⟨by rfl, fun W hW => by obtain ⟨hq2, hq3⟩ := hW; go_simp⟩) hHeld ?_
  try simp only [Act.put, List.getElem_toArray, List.getElem_cons_zero, List.setIfInBounds_toArray, List.set_cons_zero, List.set_cons_succ]
  refine wpAnyH_take (i := 1) (v := .slice a0 U.tm.length k0) rfl (by kernel_rfl) (by kernel_rfl) (by kernel_rfl) (fun _ _ _ h => h) (Or.inl ⟨by rfl, fun W hW => by obtain ⟨hq2, hq3⟩ := hW; go_simp⟩) hHeld ?_
  try simp only [Act.put, List.getElem_toArray, List.getElem_cons_succ, List.getElem_cons_zero, List.setIfInBounds_toArray, List.set_cons_zero, List.set_cons_succ]
  refine wpAnyH_take (i := 3) (v := .pointer (some ⟨w.heap.size, 1, none⟩)) rfl (by kernel_rfl) (by kernel_rfl) (by kernel_rfl) (fun _ _ _ h => h) (Or.inl ⟨by rfl, fun W hW => by obtain ⟨hq2, hq3⟩ := hW; go_simp⟩) hHeld ?_
  try simp only [Act.put, List.getElem_toArray, List.getElem_cons_succ, List.getElem_cons_zero, List.setIfInBounds_toArray, List.set_cons_zero, List.set_cons_succ]
  refine wpAnyH_take (i := 4) (v := .slice a1 U.gr.length k1) rfl (by kernel_rfl) (by kernel_rfl) (by kernel_rfl) (fun _ _ _ h => h) (Or.inl ⟨by rfl, fun W hW => by obtain ⟨hq2, hq3⟩ := hW; go_simp⟩) hHeld ?_
  try simp only [Act.put, List.getElem_toArray, List.getElem_cons_succ, List.getElem_cons_zero, List.setIfInBounds_toArray, List.set_cons_zero, List.set_cons_succ]
  refine wpAnyH_ready (rs := [2]) (by kernel_rfl) (by simp) ?_
  refine AllReadyH.cons rfl (fun KK hK => ?_) AllReadyH.nil
  obtain ⟨v2, x1, hrun, ht, hrow⟩ := run_nr tmL_len (by decide) Tryz.underlying27 infoTmz rfl (w := wz.drew) (lo := w.heap.size) (hi' := w.heap.size) (L := []) (M := U.tm) 27 (NRow.nil _ _ _ _ _) a0 U.tm.length k0 rfl (fun e => HLt.out.nilN e) (HLt.out.src (bt HB.out XX.out)) (tmL_one U.tm) (by simp; omega) (by decide)
  refine step_append_run rfl (.const (.slice none 0 0)) (.tmp 4) 27 rfl rfl rfl hrun ?_
  have hsa := ht.size
  have hba : Below (wz.drew).heap.size (wz.drew) x1 := ht.under0
  obtain ⟨t0, t1, HT, zt0, zt1, zt2⟩ : ∃ t0 t1 : Nat, Hid (TmsOwn t0 t1 x1 v2 U.tm) ∧ (wz.drew).heap.size ≤ t0 ∧ t0 ≤ t1 ∧ t1 ≤ x1.heap.size := by
    rcases hrow with h | h
    · rcases h with ⟨hv, hL⟩ | h
      · exact ⟨x1.heap.size, x1.heap.size, nrow_tms (Or.inl ⟨hv, hL⟩) HLt.out.sizes, by omega, by omega, by omega⟩
      · obtain ⟨g, c, hv, hr⟩ := h
        exact absurd hr.up (by have := hr.bs; omega)
    · exact ⟨_, _, nrow_tms h HLt.out.sizes, Nat.le_refl _, hsa, Nat.le_refl _⟩
  obtain ⟨b0, m0, rfl⟩ := HT.out.form
  replace XX : Hid (Below wz.heap.size wz x1) := bt XX.out hba
  clear hrun ht hrow
  refine hK.out _ _ ⟨(XX.out.cell (p := ⟨w.heap.size, 0, none⟩) (by simp only []; omega)).trans c0, (XX.out.cell (p := ⟨w.heap.size, 1, none⟩) (by simp only []; omega)).trans c1⟩ (fun hHeld => ?_)
  clear hK
  try simp only [Act.put, List.getElem_toArray, List.getElem_cons_succ, List.getElem_cons_zero, List.setIfInBounds_toArray, List.set_cons_zero, List.set_cons_succ]
  refine wpAnyH_ready (rs := [5]) (by kernel_rfl) (by simp) ?_
  refine AllReadyH.cons rfl (fun KK hK => ?_) AllReadyH.nil
  go_simp
  refine (eachGrs_any 0 (.slice a1 U.gr.length k1) U.gr _ (HLg.out.below (bt HB.out XX.out)) HN1.out).mono ?_
  rintro e x2 ⟨v3, rfl, hbc, hog⟩
  obtain ⟨b1, m1, rfl⟩ := hog.form
  have hsc := hbc.size
  have HG : Hid (GrsOwn _ _ _ _ _) := hide hog
  replace XX : Hid (Below wz.heap.size wz x2) := bt XX.out hbc
  clear hog
  refine hK.out _ _ ⟨(XX.out.cell (p := ⟨w.heap.size, 0, none⟩) (by simp only []; omega)).trans c0, (XX.out.cell (p := ⟨w.heap.size, 1, none⟩) (by simp only []; omega)).trans c1⟩ (fun hHeld => ?_)
  clear hK
  try simp only [Act.put, List.getElem_toArray, List.getElem_cons_succ, List.getElem_cons_zero, List.setIfInBounds_toArray, List.set_cons_zero, List.set_cons_succ]
  have FRd := hide (FR.out.on XX.out)
  have r0 := FRd.out.cell
  have r1 := FRd.out.free
  refine wpAnyH_take (i := 6) (v := .agg #[.slice b0 U.tm.length m0, .slice b1 U.gr.length m1]) rfl (by kernel_rfl) (by kernel_rfl) (by kernel_rfl) (fun _ _ _ h => h) (Or.inl ⟨by rfl, fun W hW => by obtain ⟨hq2, hq3⟩ := hW; go_simp⟩) hHeld ?_
  try simp only [Act.put, List.getElem_toArray, List.getElem_cons_succ, List.getElem_cons_zero, List.setIfInBounds_toArray, List.set_cons_zero, List.set_cons_succ]
  refine wpAnyH_ready (rs := [7]) (by kernel_rfl) (by simp) ?_
  refine AllReadyH.cons rfl (fun KK hK => ?_) AllReadyH.nil
  go_simp
  have hst : ∀ (X : World) (i : Nat) (u : Value), (X.setCell ⟨w.heap.size + 1, i, none⟩ u).cell? ⟨w.heap.size, 0, none⟩ = X.cell? ⟨w.heap.size, 0, none⟩ ∧ (X.setCell ⟨w.heap.size + 1, i, none⟩ u).cell? ⟨w.heap.size, 1, none⟩ = X.cell? ⟨w.heap.size, 1, none⟩ := fun X i u => ⟨cell_setCell_ne _ _ _ _ (by simp only []; omega), cell_setCell_ne _ _ _ _ (by simp only []; omega)⟩
  refine hK.out _ _ ⟨?_, ?_⟩ (fun hHeld => ?_)
  · rw [(hst _ _ _).1, (hst _ _ _).1]; exact (XX.out.cell (p := ⟨w.heap.size, 0, none⟩) (by simp only []; omega)).trans c0
  · rw [(hst _ _ _).2, (hst _ _ _).2]; exact (XX.out.cell (p := ⟨w.heap.size, 1, none⟩) (by simp only []; omega)).trans c1
  clear hK
  try simp only [Act.put, List.getElem_toArray, List.getElem_cons_succ, List.getElem_cons_zero, List.setIfInBounds_toArray, List.set_cons_zero, List.set_cons_succ]
  refine wpAnyH_done (by kernel_rfl) ?_ _
  obtain ⟨y, hy, HBy, HTy, HGy, gy, hsy⟩ : ∃ y, y = (x2.setCell ⟨w.heap.size + 1, 0, none⟩ (.slice b0 U.tm.length m0)).setCell ⟨w.heap.size + 1, 1, none⟩ (.slice b1 U.gr.length m1) ∧ Hid (Below w.heap.size w y) ∧ Hid (TmsOwn t0 t1 y (.slice b0 U.tm.length m0) U.tm) ∧ Hid (GrsOwn x1.heap.size x2.heap.size y (.slice b1 U.gr.length m1) U.gr) ∧ Hid (Box y (w.heap.size + 1) #[.slice b0 U.tm.length m0, .slice b1 U.gr.length m1]) ∧ Hid (y.heap.size = x2.heap.size) := by
    refine ⟨_, rfl, ?_, ?_, ?_, ?_, ?_⟩
    · exact ((bt HB.out XX.out).setCell (by simp only []; omega) _).setCell (by simp only []; omega) _
    · exact ((HT.out.below hbc).setLow (by simp only []; omega) _).setLow (by simp only []; omega) _
    · exact (HG.out.setLow (by simp only []; omega) _).setLow (by simp only []; omega) _
    · exact (FRd.out.set (k := 0) (.slice b0 U.tm.length m0) (by simp)).set (k := 1) (.slice b1 U.gr.length m1) (by simp)
    · unfold Hid; simp [World.setCell]
  rw [← hy]
  have e0 := gy.out.cell 0
  have e1 := gy.out.cell 1
  have hsz := hsy.out
  go_wp2
  refine bodyPost_ret (v := .agg #[.slice b0 U.tm.length m0, .slice b1 U.gr.length m1]) (by simp [results, Tryz.results34, go_sem, e0, e1]) rfl ⟨b0, m0, b1, m1, t0, t1, x1.heap.size, x2.heap.size, rfl, HBy.out, HTy.out, HGy.out, by omega, by omega, by omega, by omega, by omega, by omega, by omega⟩
def newH (U : Ho) (n : Int) : Hn := if houseB U = true ∧ inB 1 5 n = true then ⟨U, newW n⟩ else ⟨⟨[], []⟩, []⟩
theorem newH_small {U : Ho} (h : HoSmall U) (n : Int) : HoSmall (newH U n).ho := by
  unfold newH
  split
  · exact h
  · exact ⟨by unfold TmsFew; simp, by simp, fun i hi => absurd hi (by simp)⟩
theorem newH_len (U : Ho) (n : Int) : (newH U n).rs.length ≤ 5 := by
  unfold newH
  split
  · unfold newW
    split
    · rename_i h
      rw [newP_len]
      unfold inB at h
      have := of_decide_eq_true h
      omega
    · simp
  · simp
theorem hn_none (lo hi : Nat) (w : World) (h : lo ≤ hi) : HnOwn lo hi w (hnL ⟨⟨[], []⟩, []⟩ none 0 none 0 none 0) ⟨⟨[], []⟩, []⟩ :=
  ⟨none, 0, none, 0, none, 0, lo, lo, lo, lo, lo, lo, rfl, ⟨Nat.le_refl _, Nat.le_refl _, Nat.le_refl _, Nat.le_refl _, h, Nat.le_refl _, h, Or.inl (Nat.le_refl _)⟩, Or.inl ⟨_, _, rfl, rfl⟩, Or.inl ⟨_, _, rfl, rfl⟩, NRow.nil _ _ _ _ _⟩

set_option maxRecDepth 20000 in
set_option maxHeartbeats 16000000 in
theorem specNewH_any (cs : List Value) (U : Ho) (n : Int) (w : World) (h : HoC 0 w cs U) (hn : HoSmall U) :
    Calls Tryz.prog 6 #[.agg cs.toArray, .int .i64 n] w fun e w' => ∃ cs', e = .returned (.agg cs'.toArray) ∧ Below w.heap.size w w' ∧ HnOwn w.heap.size w'.heap.size w' cs' (newH U n) := by
  have H := hide h
  have HN := hide hn
  obtain ⟨a0, k0, a1, k1, rfl, h⟩ := h
  show Calls Tryz.prog 6 #[.agg #[.slice a0 U.tm.length k0, .slice a1 U.gr.length k1], .int .i64 n] w _
  clear h hn
  go_enter Tryz.func6, Tryz.ntmps6
  go_upto_region 1 with fail
  obtain ⟨wz, hwz, FX, FR, HB⟩ : ∃ wz, wz = (w.alloc (.cells #[.slice a0 U.tm.length k0, .slice a1 U.gr.length k1] 30)).alloc (.cells #[.slice none 0 0, .slice none 0 0, .slice none 0 0, .slice none 0 0, .slice none 0 0, .int .i64 0, .slice none 0 0] 38) ∧
      Hid (Box wz w.heap.size #[.slice a0 U.tm.length k0, .slice a1 U.gr.length k1]) ∧ Hid (Box wz (w.heap.size + 1) #[.slice none 0 0, .slice none 0 0, .slice none 0 0, .slice none 0 0, .slice none 0 0, .int .i64 0, .slice none 0 0]) ∧ Hid (Below w.heap.size w wz) :=
    ⟨_, rfl, (Box.new w _ _ _ rfl).on (one_al _ _), Box.new _ _ _ _ (by simp), (one_al _ _).trans ((one_al _ _).mono (by simp))⟩
  rw [← hwz]
  clear hwz
  have hz0 : w.heap.size + 2 ≤ wz.heap.size := by have := FR.out.lt; omega
  have gx := FX.out.cell
  cases hh : houseB U with
  | false =>
    have HE : Hid (newH U n = ⟨⟨[], []⟩, []⟩) := by unfold Hid newH; rw [if_neg]; rw [hh]; simp
    go_wp2_with (first
      | (go_at_call 26; refine (specHouse_any 0 (hoL U a0 k0 a1 k1) U _ (H.out.below HB.out)).mono ?_; rw [hh]; rintro e w1 ⟨rfl, hb⟩; have HB1 := hide (bt HB.out hb); have FX1 := hide (FX.out.on hb); have FR1 := hide (FR.out.on hb); have g0 := FX1.out.cell; have r0 := FR1.out.cell; have r1 := FR1.out.free; clear hb))
    refine bodyPost_ret (v := .agg #[.slice none 0 0, .slice none 0 0, .slice none 0 0, .slice none 0 0, .slice none 0 0, .int .i64 0, .slice none 0 0]) (by simp [results, Tryz.results6, go_sem, r0]) rfl ⟨hnL ⟨⟨[], []⟩, []⟩ none 0 none 0 none 0, rfl, ?_, ?_⟩
    · repeat (refine Below.setCell ?_ (by simp only []; omega) _)
      exact HB1.out
    · rw [HE.out]
      exact hn_none _ _ _ (by simp [World.setCell]; have := HB1.out.size; omega)
  | true =>
  cases q : inB 1 5 n with
  | false =>
    have HE : Hid (newH U n = ⟨⟨[], []⟩, []⟩) := by unfold Hid newH; rw [if_neg]; rw [q]; simp
    go_wp2_with (first
      | (go_at_call 26; refine (specHouse_any 0 (hoL U a0 k0 a1 k1) U _ (H.out.below HB.out)).mono ?_; rw [hh]; rintro e w1 ⟨rfl, hb⟩; have HB1 := hide (bt HB.out hb); have FX1 := hide (FX.out.on hb); have FR1 := hide (FR.out.on hb); have g0 := FX1.out.cell; have r0 := FR1.out.cell; have r1 := FR1.out.free; clear hb)
      | (go_at_call 27; refine (in_any _ _ _ _).mono ?_; rw [q]; rintro e w' ⟨rfl, rfl⟩))
    refine bodyPost_ret (v := .agg #[.slice none 0 0, .slice none 0 0, .slice none 0 0, .slice none 0 0, .slice none 0 0, .int .i64 0, .slice none 0 0]) (by simp [results, Tryz.results6, go_sem, r0]) rfl ⟨hnL ⟨⟨[], []⟩, []⟩ none 0 none 0 none 0, rfl, ?_, ?_⟩
    · repeat (refine Below.setCell ?_ (by simp only []; omega) _)
      exact HB1.out
    · rw [HE.out]
      exact hn_none _ _ _ (by simp [World.setCell]; have := HB1.out.size; omega)
  | true =>
    have HE : Hid (newH U n = ⟨U, newW n⟩) := by unfold Hid newH; rw [if_pos ⟨hh, q⟩]
    go_wp2_with (first
      | (go_at_call 26; refine (specHouse_any 0 (hoL U a0 k0 a1 k1) U _ (H.out.below HB.out)).mono ?_; rw [hh]; rintro e w1 ⟨rfl, hb⟩; have HB1 := hide (bt HB.out hb); have FX1 := hide (FX.out.on hb); have FR1 := hide (FR.out.on hb); have g0 := FX1.out.cell; have r0 := FR1.out.cell; have r1 := FR1.out.free; clear hb)
      | (go_at_call 27; refine (in_any _ _ _ _).mono ?_; rw [q]; rintro e w' ⟨rfl, rfl⟩)
      | (go_at_call 28; refine (l34House_any (hoL U a0 k0 a1 k1) U _ (H.out.below HB1.out) HN.out).mono ?_; rintro e w2 ⟨b0, m0, b1, m1, t0, t1, s0, s1, rfl, hb, ht, hg, z1, z2, z3, z4, z5, z6, z7⟩; have HB2 := hide (bt HB1.out hb); have FR2 := hide (FR1.out.on hb); have HT2 := hide ht; have HG2 := hide hg; have zs1 := FR1.out.lt; clear hb ht hg g0 r0 r1)
      | (go_at_call 29; refine (specNewW_any n _).mono ?_; rintro e w3 ⟨v3, rfl, hb, hr⟩; have HB3 := hide (bt HB2.out hb); have FR3 := hide (FR2.out.on hb); have HT3 := hide (HT2.out.below hb); have HG3 := hide (HG2.out.below hb); obtain ⟨b2, m2, rfl⟩ := hr.form; have HR3 := hide hr; have zs3 := hb.size; have r0 := FR3.out.cell; have r1 := FR3.out.free; clear hb hr))
    obtain ⟨y, hy, HBy, HTy, HGy, HRy, gy, hsy⟩ : ∃ y, y = ((((((w3.setCell ⟨w.heap.size + 1, 0, none⟩ (.slice b0 U.tm.length m0)).setCell ⟨w.heap.size + 1, 1, none⟩ (.slice b1 U.gr.length m1)).setCell ⟨w.heap.size + 1, 2, none⟩ (.slice b2 (newW n).length m2)).setCell ⟨w.heap.size + 1, 3, none⟩ (.slice none 0 0)).setCell ⟨w.heap.size + 1, 4, none⟩ (.slice none 0 0)).setCell ⟨w.heap.size + 1, 5, none⟩ (.int .i64 0)).setCell ⟨w.heap.size + 1, 6, none⟩ (.slice none 0 0) ∧ Hid (Below w.heap.size w y) ∧ Hid (TmsOwn t0 t1 y (.slice b0 U.tm.length m0) U.tm) ∧ Hid (GrsOwn s0 s1 y (.slice b1 U.gr.length m1) U.gr) ∧ Hid (NRow nrL 18 y w2.heap.size w3.heap.size (.slice b2 (newW n).length m2) (newW n)) ∧ Hid (Box y (w.heap.size + 1) #[.slice b0 U.tm.length m0, .slice b1 U.gr.length m1, .slice b2 (newW n).length m2, .slice none 0 0, .slice none 0 0, .int .i64 0, .slice none 0 0]) ∧ Hid (y.heap.size = w3.heap.size) := by
      refine ⟨_, rfl, ?_, ?_, ?_, ?_, ?_, ?_⟩
      · iterate 7 (refine Below.setCell ?_ (by simp only []; omega) _)
        exact HB3.out
      · iterate 7 (refine TmsOwn.setLow ?_ (by simp only []; omega) _)
        exact HT3.out
      · iterate 7 (refine GrsOwn.setLow ?_ (by simp only []; omega) _)
        exact HG3.out
      · iterate 7 (refine NRow.set ?_ (by simp only []; omega) _)
        exact HR3.out
      · exact ((((((FR3.out.set (k := 0) (.slice b0 U.tm.length m0) (by simp)).set (k := 1) (.slice b1 U.gr.length m1) (by simp)).set (k := 2) (.slice b2 (newW n).length m2) (by simp)).set (k := 3) (.slice none 0 0) (by simp)).set (k := 4) (.slice none 0 0) (by simp)).set (k := 5) (.int .i64 0) (by simp)).set (k := 6) (.slice none 0 0) (by simp)
      · unfold Hid; simp [World.setCell]
    rw [← hy]
    clear hy r0 r1
    have e0 := gy.out.cell
    have hsz := hsy.out
    refine bodyPost_ret (v := .agg #[.slice b0 U.tm.length m0, .slice b1 U.gr.length m1, .slice b2 (newW n).length m2, .slice none 0 0, .slice none 0 0, .int .i64 0, .slice none 0 0]) (by simp [results, Tryz.results6, go_sem, e0]) rfl ⟨hnL ⟨U, newW n⟩ b0 m0 b1 m1 b2 m2, rfl, HBy.out, ?_⟩
    rw [HE.out]
    exact ⟨b0, m0, b1, m1, b2, m2, t0, t1, s0, s1, w2.heap.size, w3.heap.size, rfl, ⟨by omega, by omega, by omega, by omega, by omega, by omega, by omega, z7⟩, HTy.out, HGy.out, HRy.out⟩

set_option maxRecDepth 20000 in
set_option maxHeartbeats 16000000 in
theorem implNewH_any (cs : List Value) (U : Ho) (n : Int) (w : World) (h : HoC 0 w cs U) (hn : HoSmall U) :
    Calls Tryz.prog 8 #[.agg cs.toArray, .int .i64 n] w fun e w' => ∃ cs', e = .returned (.agg cs'.toArray) ∧ Below w.heap.size w w' ∧ HnOwn w.heap.size w'.heap.size w' cs' (newH U n) := by
  have H := hide h
  have HN := hide hn
  obtain ⟨a0, k0, a1, k1, rfl, h⟩ := h
  show Calls Tryz.prog 8 #[.agg #[.slice a0 U.tm.length k0, .slice a1 U.gr.length k1], .int .i64 n] w _
  clear h hn
  go_enter Tryz.func8, Tryz.ntmps8
  go_upto_region 1 with fail
  obtain ⟨wz, hwz, FX, FR, HB⟩ : ∃ wz, wz = (w.alloc (.cells #[.slice a0 U.tm.length k0, .slice a1 U.gr.length k1] 30)).alloc (.cells #[.slice none 0 0, .slice none 0 0, .slice none 0 0, .slice none 0 0, .slice none 0 0, .int .i64 0, .slice none 0 0] 38) ∧
      Hid (Box wz w.heap.size #[.slice a0 U.tm.length k0, .slice a1 U.gr.length k1]) ∧ Hid (Box wz (w.heap.size + 1) #[.slice none 0 0, .slice none 0 0, .slice none 0 0, .slice none 0 0, .slice none 0 0, .int .i64 0, .slice none 0 0]) ∧ Hid (Below w.heap.size w wz) :=
    ⟨_, rfl, (Box.new w _ _ _ rfl).on (one_al _ _), Box.new _ _ _ _ (by simp), (one_al _ _).trans ((one_al _ _).mono (by simp))⟩
  rw [← hwz]
  clear hwz
  have hz0 : w.heap.size + 2 ≤ wz.heap.size := by have := FR.out.lt; omega
  have gx := FX.out.cell
  cases hh : houseB U with
  | false =>
    have HE : Hid (newH U n = ⟨⟨[], []⟩, []⟩) := by unfold Hid newH; rw [if_neg]; rw [hh]; simp
    go_wp2_with (first
      | (go_at_call 32; refine (implHouse_any 0 (hoL U a0 k0 a1 k1) U _ (H.out.below HB.out)).mono ?_; rw [hh]; rintro e w1 ⟨rfl, hb⟩; have HB1 := hide (bt HB.out hb); have FX1 := hide (FX.out.on hb); have FR1 := hide (FR.out.on hb); have g0 := FX1.out.cell; have r0 := FR1.out.cell; have r1 := FR1.out.free; clear hb))
    refine bodyPost_ret (v := .agg #[.slice none 0 0, .slice none 0 0, .slice none 0 0, .slice none 0 0, .slice none 0 0, .int .i64 0, .slice none 0 0]) (by simp [results, Tryz.results8, go_sem, r0]) rfl ⟨hnL ⟨⟨[], []⟩, []⟩ none 0 none 0 none 0, rfl, ?_, ?_⟩
    · repeat (refine Below.setCell ?_ (by simp only []; omega) _)
      exact HB1.out
    · rw [HE.out]
      exact hn_none _ _ _ (by simp [World.setCell]; have := HB1.out.size; omega)
  | true =>
  cases q : inB 1 5 n with
  | false =>
    have HE : Hid (newH U n = ⟨⟨[], []⟩, []⟩) := by unfold Hid newH; rw [if_neg]; rw [q]; simp
    go_wp2_with (first
      | (go_at_call 32; refine (implHouse_any 0 (hoL U a0 k0 a1 k1) U _ (H.out.below HB.out)).mono ?_; rw [hh]; rintro e w1 ⟨rfl, hb⟩; have HB1 := hide (bt HB.out hb); have FX1 := hide (FX.out.on hb); have FR1 := hide (FR.out.on hb); have g0 := FX1.out.cell; have r0 := FR1.out.cell; have r1 := FR1.out.free; clear hb)
      | (go_at_call 33; refine (within_any _ _ _ _).mono ?_; rw [q]; rintro e w' ⟨rfl, rfl⟩))
    refine bodyPost_ret (v := .agg #[.slice none 0 0, .slice none 0 0, .slice none 0 0, .slice none 0 0, .slice none 0 0, .int .i64 0, .slice none 0 0]) (by simp [results, Tryz.results8, go_sem, r0]) rfl ⟨hnL ⟨⟨[], []⟩, []⟩ none 0 none 0 none 0, rfl, ?_, ?_⟩
    · repeat (refine Below.setCell ?_ (by simp only []; omega) _)
      exact HB1.out
    · rw [HE.out]
      exact hn_none _ _ _ (by simp [World.setCell]; have := HB1.out.size; omega)
  | true =>
    have HE : Hid (newH U n = ⟨U, newW n⟩) := by unfold Hid newH; rw [if_pos ⟨hh, q⟩]
    go_wp2_with (first
      | (go_at_call 32; refine (implHouse_any 0 (hoL U a0 k0 a1 k1) U _ (H.out.below HB.out)).mono ?_; rw [hh]; rintro e w1 ⟨rfl, hb⟩; have HB1 := hide (bt HB.out hb); have FX1 := hide (FX.out.on hb); have FR1 := hide (FR.out.on hb); have g0 := FX1.out.cell; have r0 := FR1.out.cell; have r1 := FR1.out.free; clear hb)
      | (go_at_call 33; refine (within_any _ _ _ _).mono ?_; rw [q]; rintro e w' ⟨rfl, rfl⟩)
      | (go_at_call 34; refine (copyHouse_any (hoL U a0 k0 a1 k1) U _ (H.out.below HB1.out) HN.out).mono ?_; rintro e w2 ⟨b0, m0, b1, m1, t0, t1, s0, s1, rfl, hb, ht, hg, z1, z2, z3, z4, z5, z6, z7⟩; have HB2 := hide (bt HB1.out hb); have FR2 := hide (FR1.out.on hb); have HT2 := hide ht; have HG2 := hide hg; have zs1 := FR1.out.lt; clear hb ht hg g0 r0 r1)
      | (go_at_call 35; refine (implNewW_any n _).mono ?_; rintro e w3 ⟨v3, rfl, hb, hr⟩; have HB3 := hide (bt HB2.out hb); have FR3 := hide (FR2.out.on hb); have HT3 := hide (HT2.out.below hb); have HG3 := hide (HG2.out.below hb); obtain ⟨b2, m2, rfl⟩ := hr.form; have HR3 := hide hr; have zs3 := hb.size; have r0 := FR3.out.cell; have r1 := FR3.out.free; clear hb hr))
    obtain ⟨y, hy, HBy, HTy, HGy, HRy, gy, hsy⟩ : ∃ y, y = ((((((w3.setCell ⟨w.heap.size + 1, 0, none⟩ (.slice b0 U.tm.length m0)).setCell ⟨w.heap.size + 1, 1, none⟩ (.slice b1 U.gr.length m1)).setCell ⟨w.heap.size + 1, 2, none⟩ (.slice b2 (newW n).length m2)).setCell ⟨w.heap.size + 1, 3, none⟩ (.slice none 0 0)).setCell ⟨w.heap.size + 1, 4, none⟩ (.slice none 0 0)).setCell ⟨w.heap.size + 1, 5, none⟩ (.int .i64 0)).setCell ⟨w.heap.size + 1, 6, none⟩ (.slice none 0 0) ∧ Hid (Below w.heap.size w y) ∧ Hid (TmsOwn t0 t1 y (.slice b0 U.tm.length m0) U.tm) ∧ Hid (GrsOwn s0 s1 y (.slice b1 U.gr.length m1) U.gr) ∧ Hid (NRow nrL 18 y w2.heap.size w3.heap.size (.slice b2 (newW n).length m2) (newW n)) ∧ Hid (Box y (w.heap.size + 1) #[.slice b0 U.tm.length m0, .slice b1 U.gr.length m1, .slice b2 (newW n).length m2, .slice none 0 0, .slice none 0 0, .int .i64 0, .slice none 0 0]) ∧ Hid (y.heap.size = w3.heap.size) := by
      refine ⟨_, rfl, ?_, ?_, ?_, ?_, ?_, ?_⟩
      · iterate 7 (refine Below.setCell ?_ (by simp only []; omega) _)
        exact HB3.out
      · iterate 7 (refine TmsOwn.setLow ?_ (by simp only []; omega) _)
        exact HT3.out
      · iterate 7 (refine GrsOwn.setLow ?_ (by simp only []; omega) _)
        exact HG3.out
      · iterate 7 (refine NRow.set ?_ (by simp only []; omega) _)
        exact HR3.out
      · exact ((((((FR3.out.set (k := 0) (.slice b0 U.tm.length m0) (by simp)).set (k := 1) (.slice b1 U.gr.length m1) (by simp)).set (k := 2) (.slice b2 (newW n).length m2) (by simp)).set (k := 3) (.slice none 0 0) (by simp)).set (k := 4) (.slice none 0 0) (by simp)).set (k := 5) (.int .i64 0) (by simp)).set (k := 6) (.slice none 0 0) (by simp)
      · unfold Hid; simp [World.setCell]
    rw [← hy]
    clear hy r0 r1
    have e0 := gy.out.cell
    have hsz := hsy.out
    refine bodyPost_ret (v := .agg #[.slice b0 U.tm.length m0, .slice b1 U.gr.length m1, .slice b2 (newW n).length m2, .slice none 0 0, .slice none 0 0, .int .i64 0, .slice none 0 0]) (by simp [results, Tryz.results8, go_sem, e0]) rfl ⟨hnL ⟨U, newW n⟩ b0 m0 b1 m1 b2 m2, rfl, HBy.out, ?_⟩
    rw [HE.out]
    exact ⟨b0, m0, b1, m1, b2, m2, t0, t1, s0, s1, w2.heap.size, w3.heap.size, rfl, ⟨by omega, by omega, by omega, by omega, by omega, by omega, by omega, z7⟩, HTy.out, HGy.out, HRy.out⟩
end Go.Proofs.YtdeammfdkaomlaaGreat
namespace Go.Proofs.YtdeammfdkaomlaaGreat
open Go.RowKit Go.Deep

theorem nh_sizeI : (Tryz.prog.info? 25).map (·.size) = some 2 := by kernel_rfl
theorem nh_sizeH : (Tryz.prog.info? 30).map (·.size) = some 2 := by kernel_rfl
theorem nh_sizeB : (Tryz.prog.info? 38).map (·.size) = some 7 := by kernel_rfl
theorem nh_szAH {cs : List Value} (h : cs.length = 2) : (Tryz.prog.info? 30).map (·.size) = some cs.toArray.size := by rw [List.size_toArray, h]; exact nh_sizeH
def nh_zH : List Value := [.slice none 0 0, .slice none 0 0]
theorem nh_szAB {cs : List Value} (h : cs.length = 7) : (Tryz.prog.info? 38).map (·.size) = some cs.toArray.size := by rw [List.size_toArray, h]; exact nh_sizeB
def nh_zB : List Value := [.slice none 0 0, .slice none 0 0, .slice none 0 0, .slice none 0 0, .slice none 0 0, .int .i64 0, .slice none 0 0]

set_option maxRecDepth 20000 in
set_option maxHeartbeats 16000000 in
theorem law_newh (cs0 : List Value) (U : Ho) (n : Int) (w : World) (h0 : HoC 0 w cs0 U) :
    Calls Tryz.prog 3 #[.agg cs0.toArray, .int .i64 n] w fun e w' => e = .returned (.bool true) ∧ Below w.heap.size w w' := by
  have H0 := hide h0
  have HZcs0 : Hid ((Tryz.prog.info? 25).map (·.size) = some cs0.length) := by unfold Hid; rw [h0.len]; exact nh_sizeI
  have HTNH : Hid (∀ (X : World) (cs : List Value), cs.length = 2 → (X.alloc (.cells nh_zH.toArray 30)).there X.heap.size 0 cs.toArray.size) := fun X cs h => by rw [show cs.toArray.size = 2 from h]; exact there_made _ _ _ _ rfl
  have HBXH : Hid (∀ (X : World) (cs : List Value), cs.length = 2 → Box ((X.alloc (.cells nh_zH.toArray 30)).setCells X.heap.size 0 cs.toArray.toList) X.heap.size cs.toArray) := fun X cs h => (Box.new _ _ _ _ rfl).full (by rw [show cs.toArray.size = 2 from h]; rfl)
  have HTNB : Hid (∀ (X : World) (cs : List Value), cs.length = 7 → (X.alloc (.cells nh_zB.toArray 38)).there X.heap.size 0 cs.toArray.size) := fun X cs h => by rw [show cs.toArray.size = 7 from h]; exact there_made _ _ _ _ rfl
  have HBXB : Hid (∀ (X : World) (cs : List Value), cs.length = 7 → Box ((X.alloc (.cells nh_zB.toArray 38)).setCells X.heap.size 0 cs.toArray.toList) X.heap.size cs.toArray) := fun X cs h => (Box.new _ _ _ _ rfl).full (by rw [show cs.toArray.size = 7 from h]; rfl)
  clear h0
  go_enter Tryz.func3, Tryz.ntmps3
  have HR0 : Hid (World.rangeAt (w.alloc (.cells cs0.toArray 25)) w.heap.size 0 cs0) := (Box.new _ _ _ _ rfl).range rfl
  go_wp2_with (with_reducible refine wpList_load_mid (by with_reducible rfl) 25 (.tmp 2) (by with_reducible rfl) w.heap.size 0 (by with_unfolding_all rfl) cs0 _ HR0.out Tryz.underlying25 (by with_unfolding_all rfl) HZcs0.out ?_)
  generalize hWa : w.alloc _ = w0
  have HB : Hid (Below w.heap.size w w0) := by unfold Hid; rw [← hWa]; exact one_al w _
  have F0 : Hid (Box w0 w.heap.size cs0.toArray) := by unfold Hid; rw [← hWa]; exact Box.new _ _ _ _ rfl
  have hs0 : w.heap.size < w0.heap.size := F0.out.lt
  clear hWa HR0
  refine (szHo_c 0 _ U _ _ (by omega) (by omega) (H0.out.below HB.out)).mono ?_
  rintro e w1 ⟨q0, rfl, hb, r0a, r0b, r0c⟩
  have hz1 : w0.heap.size ≤ w1.heap.size := hb.size
  replace HB : Hid (Below w.heap.size w w1) := bt HB.out hb
  replace F0 := hide (F0.out.on hb)
  clear hb
  have HQ := hide r0c
  clear r0c
  by_cases hneg0 : q0 < 0
  · go_wp2
    go_ret
    exact ⟨rfl, HB.out⟩
  have M0 : Hid (HoSmall U) := HQ.out (by omega)
  have MV := hide (newH_small M0.out n)
  have h5 := newH_len U n
  clear HQ r0a r0b
  go_wp2_with (first | (with_reducible refine wpList_load_mid (by with_reducible rfl) 25 (.tmp 2) (by with_reducible rfl) w.heap.size 0 (by with_unfolding_all rfl) cs0 _ (F0.out.range rfl) Tryz.underlying25 (by with_unfolding_all rfl) HZcs0.out ?_))
  clear hneg0
  refine (toHo_c 0 _ U _ (H0.out.below HB.out) M0.out).mono ?_
  rintro e w2 ⟨xs, rfl, hb, hs⟩
  have hz2 : w1.heap.size ≤ w2.heap.size := hb.size
  replace HB : Hid (Below w.heap.size w w2) := bt HB.out hb
  replace F0 := hide (F0.out.on hb)
  clear hb
  have SX := hide (hs.mono (Nat.zero_le _))
  clear hs
  go_wp2_with fail
  refine (specNewH_any _ U n _ SX.out M0.out).mono ?_
  rintro e w3 ⟨cs6, rfl, hb, hs⟩
  have hz3 : w2.heap.size ≤ w3.heap.size := hb.size
  replace HB : Hid (Below w.heap.size w w3) := bt HB.out hb
  replace F0 := hide (F0.out.on hb)
  clear hb
  have S6 := hide hs.at
  clear SX
  have Lcs6 : Hid (cs6.length = 7) := hs.at.len
  have ONcs6 : Hid (cs6.toArray.all (·.oneCell') = true) := hs.at.one
  have HZcs6 : Hid ((Tryz.prog.info? 38).map (·.size) = some cs6.length) := by unfold Hid; rw [Lcs6.out]; exact nh_sizeB
  clear hs
  have B6 : Hid (Below w3.heap.size w3 w3) := Below.refl _ _
  go_wp2_with (with_reducible refine wpList_store_mid (by with_reducible rfl) 38 (.tmp 6) (.tmp 21) (by with_reducible rfl) w3.heap.size 0 cs6.toArray (by with_unfolding_all rfl) (by with_unfolding_all rfl) (HTNB.out _ _ Lcs6.out) (nh_szAB Lcs6.out) ONcs6.out ?_; refine Hid.out ?_)
  generalize hW : World.setCells _ _ _ _ = w4
  have F6n : Hid (Box w4 w3.heap.size cs6.toArray) := by unfold Hid; rw [← hW]; exact HBXB.out _ _ Lcs6.out
  have hb : Below w3.heap.size w3 w4 := by rw [← hW]; exact Below.sets (Nat.le_refl _) _ _ (one_al _ _)
  have hs4 : w3.heap.size < w4.heap.size := by have := F6n.out.lt; omega
  clear hW
  have hz4 : w3.heap.size ≤ w4.heap.size := hb.size
  replace HB : Hid (Below w.heap.size w w4) := bt HB.out hb
  replace F0 := hide (F0.out.on hb)
  replace B6 : Hid (Below w3.heap.size w3 w4) := bt B6.out hb
  clear hb
  have F6 := F6n
  clear F6n
  refine hide ?_
  go_wp2_with (first | (with_reducible refine wpList_load_mid (by with_reducible rfl) 25 (.tmp 2) (by with_reducible rfl) w.heap.size 0 (by with_unfolding_all rfl) cs0 _ (F0.out.range rfl) Tryz.underlying25 (by with_unfolding_all rfl) HZcs0.out ?_))
  refine (toHoO_any 0 _ U _ (H0.out.below HB.out) M0.out).mono ?_
  rintro e w5 ⟨cs7, rfl, hb, hs⟩
  have hz5 : w4.heap.size ≤ w5.heap.size := hb.size
  replace HB : Hid (Below w.heap.size w w5) := bt HB.out hb
  replace F0 := hide (F0.out.on hb)
  replace F6 := hide (F6.out.on hb)
  replace B6 : Hid (Below w3.heap.size w3 w5) := bt B6.out hb
  clear hb
  have T7 := hide hs
  have Lcs7 : Hid (cs7.length = 2) := hs.at.len
  have ONcs7 : Hid (cs7.toArray.all (·.oneCell') = true) := hs.at.one
  have HZcs7 : Hid ((Tryz.prog.info? 30).map (·.size) = some cs7.length) := by unfold Hid; rw [Lcs7.out]; exact nh_sizeH
  clear hs
  go_wp2_with (with_reducible refine wpList_store_mid (by with_reducible rfl) 30 (.tmp 7) (.tmp 23) (by with_reducible rfl) w5.heap.size 0 cs7.toArray (by with_unfolding_all rfl) (by with_unfolding_all rfl) (HTNH.out _ _ Lcs7.out) (nh_szAH Lcs7.out) ONcs7.out ?_; refine Hid.out ?_)
  generalize hW : World.setCells _ _ _ _ = w6
  have F7n : Hid (Box w6 w5.heap.size cs7.toArray) := by unfold Hid; rw [← hW]; exact HBXH.out _ _ Lcs7.out
  have hb : Below w5.heap.size w5 w6 := by rw [← hW]; exact Below.sets (Nat.le_refl _) _ _ (one_al _ _)
  have hs6 : w5.heap.size < w6.heap.size := by have := F7n.out.lt; omega
  clear hW
  have hz6 : w5.heap.size ≤ w6.heap.size := hb.size
  replace HB : Hid (Below w.heap.size w w6) := bt HB.out hb
  replace F0 := hide (F0.out.on hb)
  replace F6 := hide (F6.out.on hb)
  replace B6 : Hid (Below w3.heap.size w3 w6) := bt B6.out hb
  replace T7 := hide (T7.out.below hb)
  clear hb
  have F7 := F7n
  clear F7n
  refine hide ?_
  go_wp2_with (first | (with_reducible refine wpList_load_mid (by with_reducible rfl) 30 (.tmp 7) (by with_reducible rfl) w5.heap.size 0 (by with_unfolding_all rfl) cs7 _ (F7.out.range rfl) Tryz.underlying30 (by with_unfolding_all rfl) HZcs7.out ?_))
  refine (implNewH_any _ U n _ (T7.out.at.mono (Nat.zero_le _)) M0.out).mono ?_
  rintro e w7 ⟨cs8, rfl, hb, hs⟩
  have hz7 : w6.heap.size ≤ w7.heap.size := hb.size
  replace HB : Hid (Below w.heap.size w w7) := bt HB.out hb
  replace F0 := hide (F0.out.on hb)
  replace F6 := hide (F6.out.on hb)
  replace F7 := hide (F7.out.on hb)
  replace B6 : Hid (Below w3.heap.size w3 w7) := bt B6.out hb
  replace T7 := hide (T7.out.below hb)
  clear hb
  have T8 := hide hs
  have Lcs8 : Hid (cs8.length = 7) := hs.at.len
  have ONcs8 : Hid (cs8.toArray.all (·.oneCell') = true) := hs.at.one
  have HZcs8 : Hid ((Tryz.prog.info? 38).map (·.size) = some cs8.length) := by unfold Hid; rw [Lcs8.out]; exact nh_sizeB
  clear hs
  go_wp2_with (with_reducible refine wpList_store_mid (by with_reducible rfl) 38 (.tmp 8) (.tmp 26) (by with_reducible rfl) w7.heap.size 0 cs8.toArray (by with_unfolding_all rfl) (by with_unfolding_all rfl) (HTNB.out _ _ Lcs8.out) (nh_szAB Lcs8.out) ONcs8.out ?_; refine Hid.out ?_)
  generalize hW : World.setCells _ _ _ _ = w8
  have F8n : Hid (Box w8 w7.heap.size cs8.toArray) := by unfold Hid; rw [← hW]; exact HBXB.out _ _ Lcs8.out
  have hb : Below w7.heap.size w7 w8 := by rw [← hW]; exact Below.sets (Nat.le_refl _) _ _ (one_al _ _)
  have hs8 : w7.heap.size < w8.heap.size := by have := F8n.out.lt; omega
  clear hW
  have hz8 : w7.heap.size ≤ w8.heap.size := hb.size
  replace HB : Hid (Below w.heap.size w w8) := bt HB.out hb
  replace F0 := hide (F0.out.on hb)
  replace F6 := hide (F6.out.on hb)
  replace F7 := hide (F7.out.on hb)
  replace B6 : Hid (Below w3.heap.size w3 w8) := bt B6.out hb
  replace T7 := hide (T7.out.below hb)
  replace T8 := hide (T8.out.below hb)
  clear hb
  have F8 := F8n
  clear F8n
  refine hide ?_
  go_wp2_with (first | (with_reducible refine wpList_load_mid (by with_reducible rfl) 38 (.tmp 8) (by with_reducible rfl) w7.heap.size 0 (by with_unfolding_all rfl) cs8 _ (F8.out.range rfl) Tryz.underlying38 (by with_unfolding_all rfl) HZcs8.out ?_) | (with_reducible refine wpList_load_mid (by with_reducible rfl) 38 (.tmp 6) (by with_reducible rfl) w3.heap.size 0 (by with_unfolding_all rfl) cs6 _ (F6.out.range rfl) Tryz.underlying38 (by with_unfolding_all rfl) HZcs6.out ?_))
  refine (eqHn_c _ _ _ _ (newH U n) _ T8.out.at (S6.out.below B6.out)).mono ?_
  rintro e w9 ⟨rfl, hb⟩
  have hz9 : w8.heap.size ≤ w9.heap.size := hb.size
  replace HB : Hid (Below w.heap.size w w9) := bt HB.out hb
  replace F0 := hide (F0.out.on hb)
  replace F6 := hide (F6.out.on hb)
  replace F7 := hide (F7.out.on hb)
  replace F8 := hide (F8.out.on hb)
  replace B6 : Hid (Below w3.heap.size w3 w9) := bt B6.out hb
  replace T7 := hide (T7.out.below hb)
  replace T8 := hide (T8.out.below hb)
  clear hb
  have K := hide (H0.out.below HB.out)
  have KP : Hid (∀ W, Below w9.heap.size w9 W → W.rangeAt w5.heap.size 0 cs7 ∧ W.rangeAt w.heap.size 0 cs0) := fun W hW => ⟨(F7.out.on hW).range rfl, (F0.out.on hW).range rfl⟩
  go_wp2
  refine wp_region_held_drew (S := fun W => W.rangeAt w5.heap.size 0 cs7 ∧ W.rangeAt w.heap.size 0 cs0) (by kernel_rfl) (KP.out _ ((Below.refl _ _).drew)) (fun hHeld => ?_)
  refine wpAnyH_take (i := 0) rfl (by kernel_rfl) (by kernel_rfl) (by kernel_rfl) (fun _ _ _ h => h) (yieldsIf_load_mid (by rfl) 30 (.tmp 7) rfl w5.heap.size 0 rfl cs7 _ (fun _ h => h.1) Tryz.underlying30 rfl HZcs7.out) hHeld ?_
  simp only [Act.put, List.setIfInBounds_toArray]
  refine wpAnyH_take (i := 1) rfl (by kernel_rfl) (by kernel_rfl) (by kernel_rfl) (fun _ _ _ h => h) (yieldsIf_load_mid (by rfl) 25 (.tmp 2) rfl w.heap.size 0 rfl cs0 _ (fun _ h => h.2) Tryz.underlying25 rfl HZcs0.out) hHeld ?_
  simp only [Act.put]
  refine wpAnyH_ready (rs := [2]) (by kernel_rfl) (by simp) ?_
  refine AllReadyH.cons rfl (fun KK hK => ?_) AllReadyH.nil
  go_simp
  refine (toHo_c 0 _ U _ (K.out.below ((Below.refl _ _).drew)) M0.out).mono ?_
  rintro e ve ⟨zs, rfl, hbe, hse⟩
  have CE : Hid (Below w9.heap.size w9 ve) := bt ((Below.refl _ _).drew) hbe
  have SE := hide hse
  clear hse hbe
  try go_wp2_with fail
  refine hK.out _ _ (KP.out _ CE.out) (fun hHeld => ?_)
  clear hK KK
  try simp only [Act.put, List.setIfInBounds_toArray, List.set_cons_zero, List.set_cons_succ]
  refine wpAnyH_ready (rs := [3]) (by kernel_rfl) (by simp) ?_
  refine AllReadyH.cons rfl (fun KK hK => ?_) AllReadyH.nil
  go_simp
  refine (eqHo_c _ _ _ _ U _ (T7.out.at.below CE.out) SE.out).mono ?_
  rintro e vf ⟨rfl, hbf⟩
  have CF : Hid (Below w9.heap.size w9 vf) := bt CE.out hbf
  clear hbf
  try go_wp2_with fail
  refine hK.out _ _ (KP.out _ CF.out) (fun hHeld => ?_)
  clear hK KK
  try simp only [Act.put, List.setIfInBounds_toArray, List.set_cons_zero, List.set_cons_succ]
  refine wpAnyH_take (i := 4) (v := .bool false) rfl (by kernel_rfl) (by kernel_rfl) (by kernel_rfl) (fun _ _ _ h => h) (Or.inl ⟨by rfl, fun W hW => by go_simp⟩) hHeld ?_
  simp only [Act.put, List.setIfInBounds_toArray]
  refine wpAnyH_done (by kernel_rfl) ?_ _
  have hb := CF.out
  clear CF CE SE K KP
  have hz10 : w9.heap.size ≤ vf.heap.size := hb.size
  replace HB : Hid (Below w.heap.size w vf) := bt HB.out hb
  replace F0 := hide (F0.out.on hb)
  replace F6 := hide (F6.out.on hb)
  replace F7 := hide (F7.out.on hb)
  replace F8 := hide (F8.out.on hb)
  replace B6 : Hid (Below w3.heap.size w3 vf) := bt B6.out hb
  replace T7 := hide (T7.out.below hb)
  replace T8 := hide (T8.out.below hb)
  clear hb
  have k7a : 0 ≤ endHo 1 U := by unfold endHo; omega
  have k8a : 0 ≤ endHn 1 (newH U n) := by unfold endHn endHo; omega
  go_wp2_with (first | (with_reducible refine wpList_load_mid (by with_reducible rfl) 30 (.tmp 7) (by with_reducible rfl) w5.heap.size 0 (by with_unfolding_all rfl) cs7 _ (F7.out.range rfl) Tryz.underlying30 (by with_unfolding_all rfl) HZcs7.out ?_))
  refine (markHo_any w4.heap.size w5.heap.size _ U 1 _ T7.out M0.out (by omega) (by omega) (by omega)).mono ?_
  rintro e w11 ⟨rfl, ht⟩
  have hz11 : vf.heap.size ≤ w11.heap.size := ht.size
  replace HB : Hid (Below w.heap.size w w11) := HB.out.trans ((ht.under (by omega)).mono (by omega))
  replace F0 := hide (F0.out.touch ht (by omega))
  replace F6 := hide (F6.out.touch ht (by omega))
  replace F7 := hide (F7.out.touch ht (by omega))
  replace F8 := hide (F8.out.touch ht (by omega))
  replace B6 : Hid (Below w3.heap.size w3 w11) := B6.out.trans ((ht.under (by omega)).mono (by omega))
  replace T8 := hide (T8.out.touch ht (by omega))
  clear ht
  clear T7
  obtain ⟨q7, hq7⟩ : ∃ q : Int, q = endHo 1 U := ⟨_, rfl⟩
  rw [← hq7] at k7a
  rw [← hq7]
  have n7 : decide (q7 < 0) = false := by simp; omega
  clear hq7
  go_wp2_with (first | (with_reducible refine wpList_load_gd (by with_unfolding_all rfl) 38 (.tmp 8) (by with_reducible rfl) w7.heap.size 0 (by with_unfolding_all rfl) cs8 _ (F8.out.range rfl) Tryz.underlying38 (by with_unfolding_all rfl) HZcs8.out ?_) | (with_reducible refine wpList_load_gd (by with_unfolding_all rfl) 38 (.tmp 6) (by with_reducible rfl) w3.heap.size 0 (by with_unfolding_all rfl) cs6 _ (F6.out.range rfl) Tryz.underlying38 (by with_unfolding_all rfl) HZcs6.out ?_))
  clear n7
  refine (eqHn_c _ _ _ _ (newH U n) _ T8.out.at (S6.out.below B6.out)).mono ?_
  rintro e w12 ⟨rfl, hb⟩
  have hz12 : w11.heap.size ≤ w12.heap.size := hb.size
  replace HB : Hid (Below w.heap.size w w12) := bt HB.out hb
  replace F0 := hide (F0.out.on hb)
  replace F6 := hide (F6.out.on hb)
  replace F7 := hide (F7.out.on hb)
  replace F8 := hide (F8.out.on hb)
  replace B6 : Hid (Below w3.heap.size w3 w12) := bt B6.out hb
  replace T8 := hide (T8.out.below hb)
  clear hb
  go_wp2_with (first | (with_reducible refine wpList_load_mid (by with_reducible rfl) 38 (.tmp 8) (by with_reducible rfl) w7.heap.size 0 (by with_unfolding_all rfl) cs8 _ (F8.out.range rfl) Tryz.underlying38 (by with_unfolding_all rfl) HZcs8.out ?_))
  refine (markHn_any w6.heap.size w7.heap.size _ (newH U n) 1 _ T8.out MV.out h5 (by omega) (by omega) (by omega)).mono ?_
  rintro e w13 ⟨rfl, ht, ho⟩
  have hz13 : w12.heap.size ≤ w13.heap.size := ht.size
  replace HB : Hid (Below w.heap.size w w13) := HB.out.trans ((ht.under (by omega)).mono (by omega))
  replace F0 := hide (F0.out.touch ht (by omega))
  replace F6 := hide (F6.out.touch ht (by omega))
  replace F7 := hide (F7.out.touch ht (by omega))
  replace F8 := hide (F8.out.touch ht (by omega))
  replace B6 : Hid (Below w3.heap.size w3 w13) := B6.out.trans ((ht.under (by omega)).mono (by omega))
  clear ht
  clear T8
  have T8 := hide ho
  clear ho
  obtain ⟨q8, hq8⟩ : ∃ q : Int, q = endHn 1 (newH U n) := ⟨_, rfl⟩
  rw [← hq8] at k8a
  rw [← hq8]
  have n8 : decide (q8 < 0) = false := by simp; omega
  go_wp2_with (first | (with_reducible refine wpList_load_mid (by with_reducible rfl) 38 (.tmp 8) (by with_reducible rfl) w7.heap.size 0 (by with_unfolding_all rfl) cs8 _ (F8.out.range rfl) Tryz.underlying38 (by with_unfolding_all rfl) HZcs8.out ?_))
  refine (heldHn_any w6.heap.size w7.heap.size _ (newH U n) 1 _ T8.out MV.out h5 (by omega) (by omega)).mono ?_
  rintro e w14 ⟨rfl, hb⟩
  have hz14 : w13.heap.size ≤ w14.heap.size := hb.size
  replace HB : Hid (Below w.heap.size w w14) := bt HB.out hb
  replace F0 := hide (F0.out.on hb)
  replace F6 := hide (F6.out.on hb)
  replace F7 := hide (F7.out.on hb)
  replace F8 := hide (F8.out.on hb)
  replace B6 : Hid (Below w3.heap.size w3 w14) := bt B6.out hb
  replace T8 := hide (T8.out.below hb)
  clear hb
  rw [← hq8]
  go_wp2_with (first | (with_reducible refine wpList_load_mid (by with_reducible rfl) 25 (.tmp 2) (by with_reducible rfl) w.heap.size 0 (by with_unfolding_all rfl) cs0 _ (F0.out.range rfl) Tryz.underlying25 (by with_unfolding_all rfl) HZcs0.out ?_))
  refine (toHo_c 0 _ U _ (H0.out.below HB.out) M0.out).mono ?_
  rintro e w15 ⟨ys, rfl, hb, hs⟩
  have hz15 : w14.heap.size ≤ w15.heap.size := hb.size
  replace HB : Hid (Below w.heap.size w w15) := bt HB.out hb
  replace F0 := hide (F0.out.on hb)
  replace F6 := hide (F6.out.on hb)
  replace F7 := hide (F7.out.on hb)
  replace F8 := hide (F8.out.on hb)
  replace B6 : Hid (Below w3.heap.size w3 w15) := bt B6.out hb
  replace T8 := hide (T8.out.below hb)
  clear hb
  have SY := hide (hs.mono (Nat.zero_le _))
  clear hs
  go_wp2_with fail
  refine (implNewH_any _ U n _ SY.out M0.out).mono ?_
  rintro e w16 ⟨cs12, rfl, hb, hs⟩
  have hz16 : w15.heap.size ≤ w16.heap.size := hb.size
  replace HB : Hid (Below w.heap.size w w16) := bt HB.out hb
  replace F0 := hide (F0.out.on hb)
  replace F6 := hide (F6.out.on hb)
  replace F7 := hide (F7.out.on hb)
  replace F8 := hide (F8.out.on hb)
  replace B6 : Hid (Below w3.heap.size w3 w16) := bt B6.out hb
  replace T8 := hide (T8.out.below hb)
  clear hb
  have T12 := hide hs
  clear SY
  have Lcs12 : Hid (cs12.length = 7) := hs.at.len
  have ONcs12 : Hid (cs12.toArray.all (·.oneCell') = true) := hs.at.one
  have HZcs12 : Hid ((Tryz.prog.info? 38).map (·.size) = some cs12.length) := by unfold Hid; rw [Lcs12.out]; exact nh_sizeB
  clear hs
  go_wp2_with (with_reducible refine wpList_store_mid (by with_reducible rfl) 38 (.tmp 12) (.tmp 61) (by with_reducible rfl) w16.heap.size 0 cs12.toArray (by with_unfolding_all rfl) (by with_unfolding_all rfl) (HTNB.out _ _ Lcs12.out) (nh_szAB Lcs12.out) ONcs12.out ?_; refine Hid.out ?_)
  generalize hW : World.setCells _ _ _ _ = w17
  have F12n : Hid (Box w17 w16.heap.size cs12.toArray) := by unfold Hid; rw [← hW]; exact HBXB.out _ _ Lcs12.out
  have hb : Below w16.heap.size w16 w17 := by rw [← hW]; exact Below.sets (Nat.le_refl _) _ _ (one_al _ _)
  have hs17 : w16.heap.size < w17.heap.size := by have := F12n.out.lt; omega
  clear hW
  have hz17 : w16.heap.size ≤ w17.heap.size := hb.size
  replace HB : Hid (Below w.heap.size w w17) := bt HB.out hb
  replace F0 := hide (F0.out.on hb)
  replace F6 := hide (F6.out.on hb)
  replace F7 := hide (F7.out.on hb)
  replace F8 := hide (F8.out.on hb)
  replace B6 : Hid (Below w3.heap.size w3 w17) := bt B6.out hb
  replace T8 := hide (T8.out.below hb)
  replace T12 := hide (T12.out.below hb)
  clear hb
  have F12 := F12n
  clear F12n
  refine hide ?_
  go_wp2_with (first | (with_reducible refine wpList_load_mid (by with_reducible rfl) 38 (.tmp 12) (by with_reducible rfl) w16.heap.size 0 (by with_unfolding_all rfl) cs12 _ (F12.out.range rfl) Tryz.underlying38 (by with_unfolding_all rfl) HZcs12.out ?_) | (with_reducible refine wpList_load_mid (by with_reducible rfl) 38 (.tmp 6) (by with_reducible rfl) w3.heap.size 0 (by with_unfolding_all rfl) cs6 _ (F6.out.range rfl) Tryz.underlying38 (by with_unfolding_all rfl) HZcs6.out ?_))
  refine (eqHn_c _ _ _ _ (newH U n) _ T12.out.at (S6.out.below B6.out)).mono ?_
  rintro e w18 ⟨rfl, hb⟩
  have hz18 : w17.heap.size ≤ w18.heap.size := hb.size
  replace HB : Hid (Below w.heap.size w w18) := bt HB.out hb
  replace F0 := hide (F0.out.on hb)
  replace F6 := hide (F6.out.on hb)
  replace F7 := hide (F7.out.on hb)
  replace F8 := hide (F8.out.on hb)
  replace F12 := hide (F12.out.on hb)
  replace B6 : Hid (Below w3.heap.size w3 w18) := bt B6.out hb
  replace T8 := hide (T8.out.below hb)
  replace T12 := hide (T12.out.below hb)
  clear hb
  go_wp2_with (first | (with_reducible refine wpList_load_mid (by with_reducible rfl) 38 (.tmp 8) (by with_reducible rfl) w7.heap.size 0 (by with_unfolding_all rfl) cs8 _ (F8.out.range rfl) Tryz.underlying38 (by with_unfolding_all rfl) HZcs8.out ?_))
  refine (heldHn_any w6.heap.size w7.heap.size _ (newH U n) 1 _ T8.out MV.out h5 (by omega) (by omega)).mono ?_
  rintro e w19 ⟨rfl, hb⟩
  have hz19 : w18.heap.size ≤ w19.heap.size := hb.size
  replace HB : Hid (Below w.heap.size w w19) := bt HB.out hb
  replace F0 := hide (F0.out.on hb)
  replace F6 := hide (F6.out.on hb)
  replace F7 := hide (F7.out.on hb)
  replace F8 := hide (F8.out.on hb)
  replace F12 := hide (F12.out.on hb)
  replace B6 : Hid (Below w3.heap.size w3 w19) := bt B6.out hb
  replace T8 := hide (T8.out.below hb)
  replace T12 := hide (T12.out.below hb)
  clear hb
  rw [← hq8]
  go_wp2
  go_ret
  exact ⟨rfl, HB.out⟩
end Go.Proofs.YtdeammfdkaomlaaGreat
namespace Go.Proofs.YtdeammfdkaomlaaGreat
open Go.ChangeShapes Go.WideShapes Go.ChangeAt Go.RowKit Go.Deep
open Go.ChangeMaps (open_string shut_string)

set_option maxRecDepth 100000 in
theorem hnewh_lifted (os : Os) (started : os.Started) (H : Type) (enc : TypeId × Value → H) :
    ReturnsInHanded {} Tryz.checked os 3 .any (Rows.fnExactHallNewSpec.pre6 enc Tryz.prog Tryz.f3 Rows.fnExactHallNewRow.domain false) (Rows.fnExactHallNewSpec.post enc Tryz.prog Tryz.f3 false true false false) := by
  refine returnsInHanded_of_change (C := Tryz.checked) Tryz.own started (by kernel_rfl) Tryz.func3
    (ChangeSpec.witness6 (enc := enc) (C := Tryz.checked) false ⟨#[], #[.agg #[.slice none 0 0, .slice none 0 0], .int .i64 0], []⟩ 8 (by kernel_rfl) (by kernel_rfl) (by kernel_rfl) (by kernel_rfl)) ?_
  intro W base args ds gs before hval0 hW hcnd _
  have hval : ∀ (j : Nat) t v, Tryz.f3.params[j]? = some t → args[j]? = some v → Value.okWide Tryz.prog W .any base t v := hval0
  have hW' := hW
  obtain ⟨p, q, hA0, hV, rfl, hfz, hnd⟩ := hW
  have hA : DataW.TrodAll enc Tryz.prog W 0 (fun _ => true) true Tryz.f3.params.toList args.toList ds p := hA0
  rw [Tryz.params3] at hA hval
  obtain ⟨v0, v1, d0, d1, p0, p1, rfl, rfl, rfl, h0, h1⟩ := trodAll_two hA
  obtain ⟨rfl, rfl⟩ := trodVars_none hV
  have h0k := h0
  obtain ⟨x1, rfl, rfl, rfl, s1⟩ := open_int Tryz.underlying3 (hval 1 3 v1 rfl rfl) h1
  clear hA0 hval0
  simp only [List.append_nil] at hW'
  have hlt0 : ∀ x ∈ p0, x.block < W.heap.size := fun x hx => by simpa using hW'.lt x (by simp [hx])
  obtain ⟨cs, U, rfl, hU⟩ := open_Ho (hval 0 25 v0 rfl rfl) h0
  refine (law_newh cs U x1 W hU).mono fun e W' ⟨he, hb⟩ => ?_
  subst he
  have hargs0 := Below.trod Tryz.laidOut (by kernel_rfl) (of_decide_eq_true (by kernel_rfl)) h0k hb hlt0
  exact ⟨_, rfl, ⟨_, _, _, [], _, [], hW', trodAll_mk1 (shut_bool Tryz.underlying4 true), trodAll_mk2 hargs0 (shut_int Tryz.underlying3 s1), rfl, hb.frame _, fun h => by cases h⟩⟩

theorem hnewh_named : Tryz.pinned.checked.prog.funcNamed Rows.fnExactHallNewRow.func = some 3 := by kernel_rfl
theorem and_t {a b : Bool} (ha : a = true) (hb : b = true) : (a && b) = true := by rw [ha, hb]; rfl
theorem hnewh_c0 : (Rows.fnExactHallNewRow.wf (OpenSpec.ofChange Rows.fnExactHallNewSpec)) = true := by kernel_rfl
theorem hnewh_c1 : (laidOutB Tryz.pinned.checked.prog) = true := by kernel_rfl
theorem hnewh_c2 : (mapsRowed Tryz.pinned.checked.prog) = true := by kernel_rfl
theorem hnewh_c3 : (Tryz.f3.params.all (Tryz.pinned.checked.prog.readableRec ·)) = true := by kernel_rfl
theorem hnewh_c4 : (namedTie Tryz.pinned.checked.prog Rows.fnExactHallNewRow.named Rows.fnExactHallNewSpec.vars) = true := by kernel_rfl
theorem hnewh_c5 : ((Rows.fnExactHallNewRow.stops == [])) = true := by kernel_rfl
theorem hnewh_c6 : ((Tryz.pinned.checked.prog.stops == [])) = true := by kernel_rfl
theorem hnewh_c7 : ((Rows.fnExactHallNewRow.knobs == [])) = true := by kernel_rfl
theorem hnewh_c8 : ((Tryz.pinned.checked.prog.stopKnobs == [])) = true := by kernel_rfl
theorem hnewh_c9 : ((Rows.fnExactHallNewRow.inPlace == Tryz.pinned.checked.prog.inPlace 3)) = true := by kernel_rfl
theorem hnewh_c10 : ((Rows.fnExactHallNewRow.unfollowed == Tryz.pinned.checked.prog.unfollowed 3)) = true := by kernel_rfl
theorem hnewh_c11 : ((Rows.fnExactHallNewRow.recurses == Tryz.pinned.checked.prog.recurses 3)) = true := by kernel_rfl
theorem hnewh_c12 : ((Rows.fnExactHallNewRow.named == Tryz.pinned.checked.prog.varsNamed 3)) = true := by kernel_rfl
theorem hnewh_c13 : ((Rows.fnExactHallNewRow.maps == (Tryz.f3.params.toList ++ Rows.fnExactHallNewSpec.plain.varTypes Tryz.pinned.checked.prog).any (Tryz.pinned.checked.prog.mapsRec ·))) = true := by kernel_rfl
theorem hnewh_c14 : ((Rows.fnExactHallNewRow.ifaces == (Tryz.f3.params.toList ++ Rows.fnExactHallNewSpec.plain.varTypes Tryz.pinned.checked.prog).any (Tryz.pinned.checked.prog.ifacesRec ·))) = true := by kernel_rfl
theorem hnewh_c15 : ((Rows.fnExactHallNewRow.mapsOut == Tryz.pinned.checked.prog.mapsAmong Tryz.f3.resultTypes.toList)) = true := by kernel_rfl
theorem hnewh_c16 : ((Rows.fnExactHallNewRow.loops == (Tryz.f3.params.toList ++ Rows.fnExactHallNewSpec.plain.varTypes Tryz.pinned.checked.prog).any (Tryz.pinned.checked.prog.loopsFrom ·))) = true := by kernel_rfl
theorem hnewh_c17 : ((Rows.fnExactHallNewRow.wideKeys == (Tryz.f3.params.toList ++ Rows.fnExactHallNewSpec.plain.varTypes Tryz.pinned.checked.prog ++ Tryz.f3.resultTypes.toList).any (Tryz.pinned.checked.prog.wideKeysFrom ·))) = true := by kernel_rfl
theorem hnewh_c18 : (Rows.fnExactHallNewSpec.vars.all (Tryz.pinned.checked.prog.varReadable ·)) = true := by kernel_rfl
theorem hnewh_c19 : (Tryz.f3.resultTypes.all (fun t => Tryz.pinned.checked.prog.readableRec t && decide (t < Tryz.pinned.checked.prog.types.size))) = true := by kernel_rfl
theorem hnewh_c20 : ((Rows.fnExactHallNewRow.ifacesOut == Tryz.f3.resultTypes.toList.any (Tryz.pinned.checked.prog.ifacesRec ·))) = true := by kernel_rfl
theorem hnewh_c21 : ((Rows.fnExactHallNewRow.loopsOut == Tryz.f3.resultTypes.toList.any (Tryz.pinned.checked.prog.loopsFrom ·))) = true := by kernel_rfl
theorem hnewh_c22 : ((Rows.fnExactHallNewRow.plainKeys == Tryz.pinned.checked.prog.plainKeys)) = true := by kernel_rfl
theorem hnewh_c23 : (Rows.fnExactHallNewRow.shortTexts.isNone) = true := by kernel_rfl
theorem hnewh_c24 : (Tryz.pinned.checked.prog.stopsHeard) = true := by kernel_rfl
theorem hnewh_c25 : (Tryz.pinned.checked.prog.mayEnter) = true := by kernel_rfl
theorem hnewh_c26 : ((Rows.fnExactHallNewRow.lifted == Tryz.pinned.checked.prog.liftsFinal)) = true := by kernel_rfl
theorem hnewh_c27 : ((Tryz.pinned.checked.prog.make == some Rows.fnExactHallNewRow.make)) = true := by kernel_rfl
theorem hnewh_c28 : ((Rows.fnExactHallNewRow.kinds == (if Rows.fnExactHallNewRow.domain.isEmpty then [] else Tryz.f3.params.toList.map fun t => match Tryz.pinned.checked.prog.underlying t with | some (.int k) => some k | _ => none))) = true := by kernel_rfl
theorem hnewh_c29 : ((Rows.fnExactHallNewRow.pinned == Rows.fnExactHallNewRow.pinnedBy)) = true := by kernel_rfl
theorem hnewh_c30 : ((Rows.fnExactHallNewRow.veiled == (Tryz.f3.params.toList ++ Rows.fnExactHallNewSpec.plain.varTypes Tryz.pinned.checked.prog ++ Tryz.f3.resultTypes.toList).any (Tryz.pinned.checked.prog.veiledRec ·))) = true := by kernel_rfl
theorem hnewh_c31 : (Rows.fnExactHallNewRow.veiledFits Tryz.pinned.checked.prog Tryz.f3.params.toList (Tryz.f3.params.toList ++ Rows.fnExactHallNewSpec.plain.varTypes Tryz.pinned.checked.prog ++ Tryz.f3.resultTypes.toList)) = true := by kernel_rfl
set_option maxRecDepth 100000 in
theorem hnewh_closed : joinedFacts Tryz.pinned.checked.prog 3 Tryz.f3 Rows.fnExactHallNewSpec Rows.fnExactHallNewRow = true := and_t (and_t (and_t (and_t (and_t (and_t (and_t (and_t (and_t (and_t (and_t (and_t (and_t (and_t (and_t (and_t (and_t (and_t (and_t (and_t (and_t (and_t (and_t (and_t (and_t (and_t (and_t (and_t (and_t (and_t (and_t hnewh_c0 hnewh_c1) hnewh_c2) hnewh_c3) hnewh_c4) hnewh_c5) hnewh_c6) hnewh_c7) hnewh_c8) hnewh_c9) hnewh_c10) hnewh_c11) hnewh_c12) hnewh_c13) hnewh_c14) hnewh_c15) hnewh_c16) hnewh_c17) hnewh_c18) hnewh_c19) hnewh_c20) hnewh_c21) hnewh_c22) hnewh_c23) hnewh_c24) hnewh_c25) hnewh_c26) hnewh_c27) hnewh_c28) hnewh_c29) hnewh_c30) hnewh_c31
theorem hnewh_inst : Tryz.f3.isInstance Tryz.pinned.checked.prog Rows.fnExactHallNewRow.origin Rows.fnExactHallNewRow.targs := of_decide_eq_true (by kernel_rfl)
theorem hnewh_wrap : Tryz.f3.isWrapper Tryz.pinned.checked.prog Rows.fnExactHallNewRow.wrapper Rows.fnExactHallNewRow.mainSum := by unfold Func.isWrapper; first | (rw [if_pos (by decide +kernel)]; kernel_rfl) | (rw [if_neg (by decide +kernel)]; exact ⟨rfl, rfl⟩)
theorem hnewh_holds : Rows.FnExactHallNewSaid :=
  OpenClaim.holds_of_wide 3 Tryz.f3 rfl rfl rfl rfl rfl rfl rfl ⟨rfl, rfl, rfl, rfl, rfl⟩ rfl rfl rfl rfl rfl hnewh_named Tryz.func3 hnewh_closed hnewh_inst hnewh_wrap
    (fun os started H enc _ => hnewh_lifted os started H enc)
end Go.Proofs.YtdeammfdkaomlaaGreat
