import Derived.Test.YtdeammfdkaomlaaGreatV36
import Derived.Test.YtdeammfdkaomlaaGreatV48
namespace Go.Proofs.YtdeammfdkaomlaaGreat
open Go.RowKit Go.Deep

theorem eqHallAskedS_nil (w : World) : Calls Tryz.prog 37 #[.slice none 0 0, .slice none 0 0] w fun e w' => e = .returned (.bool true) ∧ w' = w := by
  go_enter Tryz.func37, Tryz.ntmps37
  go_wp2
  go_loop [5] (fun i => i = .int .i64 0) (fun _ => 0)
  case atStart => rfl
  case round =>
    obtain rfl := hrel
    go_wp2
    go_ret
    exact ⟨rfl, rfl⟩
theorem markHallAskedS_nil (k : Int) (w : World) : Calls Tryz.prog 43 #[.slice none 0 0, .int .i64 k] w fun e w' => e = .returned (.int .i64 k) ∧ w' = w := by
  go_enter Tryz.func43, Tryz.ntmps43
  go_wp2
  go_loop [5, 1] (fun i q => i = .int .i64 0 ∧ q = .int .i64 k) (fun _ _ => 0)
  case atStart => exact ⟨rfl, rfl⟩
  case round =>
    obtain ⟨rfl, rfl⟩ := hrel
    go_wp2
    go_ret
    exact ⟨rfl, rfl⟩
theorem heldHallAskedS_nil (k : Int) (w : World) : Calls Tryz.prog 46 #[.slice none 0 0, .int .i64 k] w fun e w' => e = .returned (.int .i64 k) ∧ w' = w := by
  go_enter Tryz.func46, Tryz.ntmps46
  go_wp2
  go_loop [5, 1] (fun i q => i = .int .i64 0 ∧ q = .int .i64 k) (fun _ _ => 0)
  case atStart => exact ⟨rfl, rfl⟩
  case round =>
    obtain ⟨rfl, rfl⟩ := hrel
    go_wp2
    go_ret
    exact ⟨rfl, rfl⟩
/-- a new world: a house and new recorders -/
structure Hn where
  ho : Ho
  rs : List Nr
def hnL (U : Hn) (a0 : Option Addr) (k0 : Nat) (a1 : Option Addr) (k1 : Nat) (a2 : Option Addr) (k2 : Nat) : List Value := [.slice a0 U.ho.tm.length k0, .slice a1 U.ho.gr.length k1, .slice a2 U.rs.length k2, .slice none 0 0, .slice none 0 0, .int .i64 0, .slice none 0 0]
def HnC (lo : Nat) (w : World) (cs : List Value) (U : Hn) : Prop := ∃ a0 k0 a1 k1 a2 k2, cs = hnL U a0 k0 a1 k1 a2 k2 ∧ HoAt lo w (.slice a0 U.ho.tm.length k0) (.slice a1 U.ho.gr.length k1) U.ho ∧ RrsAt lo w (.slice a2 U.rs.length k2) (U.rs.map nrU)
/-- a new world of one's own: teams, grants, recorders, apart from each other -/
def HnOwn (lo hi : Nat) (w : World) (cs : List Value) (U : Hn) : Prop := ∃ a0 k0 a1 k1 a2 k2, ∃ t0 t1 g0 g1 r0 r1 : Nat, cs = hnL U a0 k0 a1 k1 a2 k2 ∧ (lo ≤ t0 ∧ t1 ≤ r0 ∧ lo ≤ g0 ∧ g1 ≤ r0 ∧ r1 ≤ hi ∧ lo ≤ r0 ∧ r0 ≤ hi ∧ (t1 ≤ g0 ∨ g1 ≤ t0)) ∧ TmsOwn t0 t1 w (.slice a0 U.ho.tm.length k0) U.ho.tm ∧ GrsOwn g0 g1 w (.slice a1 U.ho.gr.length k1) U.ho.gr ∧ NRow nrL 18 w r0 r1 (.slice a2 U.rs.length k2) U.rs
theorem HnC.below {lo : Nat} {w w' : World} {cs : List Value} {U : Hn} (h : HnC lo w cs U) (hb : Below w.heap.size w w') : HnC lo w' cs U := by
  obtain ⟨a0, k0, a1, k1, a2, k2, h1, h2, h3⟩ := h
  exact ⟨a0, k0, a1, k1, a2, k2, h1, h2.below hb, h3.below hb⟩
theorem HnC.len {lo : Nat} {w : World} {cs : List Value} {U : Hn} (h : HnC lo w cs U) : cs.length = 7 := by
  obtain ⟨a0, k0, a1, k1, a2, k2, h1, h2, h3⟩ := h
  rw [h1]; rfl
theorem HnC.one {lo : Nat} {w : World} {cs : List Value} {U : Hn} (h : HnC lo w cs U) : Array.all cs.toArray (·.oneCell') = true := by
  obtain ⟨a0, k0, a1, k1, a2, k2, h1, h2, h3⟩ := h
  rw [h1]
  unfold hnL
  simp [Value.oneCell']
theorem HnC.mono {lo lo' : Nat} {w : World} {cs : List Value} {U : Hn} (h : HnC lo w cs U) (hl : lo' ≤ lo) : HnC lo' w cs U := by
  obtain ⟨a0, k0, a1, k1, a2, k2, h1, h2, h3⟩ := h
  exact ⟨a0, k0, a1, k1, a2, k2, h1, h2.mono hl, h3.mono hl⟩
theorem HnOwn.at {lo hi : Nat} {w : World} {cs : List Value} {U : Hn} (h : HnOwn lo hi w cs U) : HnC lo w cs U := by
  obtain ⟨a0, k0, a1, k1, a2, k2, t0, t1, g0, g1, r0, r1, h1, ⟨z1, z2, z3, z4, z5, z6, z7, z8⟩, h2, h3, h4⟩ := h
  exact ⟨a0, k0, a1, k1, a2, k2, h1, ⟨h2.at.mono z1, h3.at.mono z3⟩, h4.rrs.mono z6⟩
theorem HnOwn.below {lo hi : Nat} {w w' : World} {cs : List Value} {U : Hn} (h : HnOwn lo hi w cs U) (hb : Below w.heap.size w w') : HnOwn lo hi w' cs U := by
  obtain ⟨a0, k0, a1, k1, a2, k2, t0, t1, g0, g1, r0, r1, h1, hz, h2, h3, h4⟩ := h
  exact ⟨a0, k0, a1, k1, a2, k2, t0, t1, g0, g1, r0, r1, h1, hz, h2.below hb, h3.below hb, h4.below hb⟩
theorem HnOwn.touch {lo hi lo' hi' : Nat} {w w' : World} {cs : List Value} {U : Hn} (h : HnOwn lo hi w cs U) (ht : Touch lo' hi' w w') (ho : hi ≤ lo' ∨ hi' ≤ lo) : HnOwn lo hi w' cs U := by
  obtain ⟨a0, k0, a1, k1, a2, k2, t0, t1, g0, g1, r0, r1, h1, ⟨z1, z2, z3, z4, z5, z6, z7, z8⟩, h2, h3, h4⟩ := h
  exact ⟨a0, k0, a1, k1, a2, k2, t0, t1, g0, g1, r0, r1, h1, ⟨z1, z2, z3, z4, z5, z6, z7, z8⟩, h2.touch ht (by omega), h3.touch ht (by omega), h4.touch ht (by omega)⟩
theorem wd_hn {w : World} {lo : Nat} {a : Option Addr} {c : Nat} {L : List Nr} (h : RrsAt lo w (.slice a L.length c) (L.map nrU)) : WdC lo w [.slice a L.length c, .slice none 0 0, .slice none 0 0] ⟨L.map nrU, [], []⟩ := by
  refine ⟨a, c, none, 0, none, 0, by simp [wdL], ⟨?_, Or.inl ⟨_, _, rfl, rfl⟩, Or.inl ⟨_, _, rfl, rfl⟩⟩⟩
  show RrsAt lo w (.slice a (L.map nrU).length c) (L.map nrU)
  rw [List.length_map]
  exact h

set_option maxRecDepth 20000 in
set_option maxHeartbeats 8000000 in
theorem eqHn_c (lo lo' : Nat) (cs cs' : List Value) (U : Hn) (w : World) (h : HnC lo w cs U) (h' : HnC lo' w cs' U) :
    Calls Tryz.prog 9 #[.agg cs.toArray, .agg cs'.toArray] w fun e w' => e = .returned (.bool true) ∧ Below w.heap.size w w' := by
  obtain ⟨a0, k0, a1, k1, a2, k2, rfl, h1, h2⟩ := h
  obtain ⟨d0, e0, d1, e1, d2, e2, rfl, h1', h2'⟩ := h'
  show Calls Tryz.prog 9 #[.agg #[.slice a0 U.ho.tm.length k0, .slice a1 U.ho.gr.length k1, .slice a2 U.rs.length k2, .slice none 0 0, .slice none 0 0, .int .i64 0, .slice none 0 0], .agg #[.slice d0 U.ho.tm.length e0, .slice d1 U.ho.gr.length e1, .slice d2 U.rs.length e2, .slice none 0 0, .slice none 0 0, .int .i64 0, .slice none 0 0]] w _
  have HL := hide h1
  have HR := hide h1'
  have HP := hide (wd_hn h2)
  have HQ := hide (wd_hn h2')
  clear h1 h1' h2 h2'
  go_enter Tryz.func9, Tryz.ntmps9
  go_wp2_with fail
  generalize hWa : (World.alloc (w.alloc _) _) = Wa
  have HB : Hid (Below w.heap.size w Wa) := by unfold Hid; rw [← hWa]; exact (one_al w _).alloc (by simp) _
  have FX : Hid (Box Wa w.heap.size #[.slice a0 U.ho.tm.length k0, .slice a1 U.ho.gr.length k1, .slice a2 U.rs.length k2, .slice none 0 0, .slice none 0 0, .int .i64 0, .slice none 0 0]) := by unfold Hid; rw [← hWa]; exact (Box.new _ _ _ _ rfl).on (one_al _ _)
  have FY : Hid (Box Wa (w.heap.size + 1) #[.slice d0 U.ho.tm.length e0, .slice d1 U.ho.gr.length e1, .slice d2 U.rs.length e2, .slice none 0 0, .slice none 0 0, .int .i64 0, .slice none 0 0]) := by unfold Hid; rw [← hWa]; exact Box.new _ _ _ _ (by simp)
  clear hWa
  refine (eqHo_c lo lo' (hoL U.ho a0 k0 a1 k1) (hoL U.ho d0 e0 d1 e1) U.ho _ ⟨_, _, _, _, rfl, HL.out.below HB.out⟩ ⟨_, _, _, _, rfl, HR.out.below HB.out⟩).mono ?_
  rintro e w1 ⟨rfl, hb⟩
  replace HB := hide (bt HB.out hb)
  replace FX := hide (FX.out.on hb)
  replace FY := hide (FY.out.on hb)
  clear hb
  have g0 := FX.out.cell
  have g1 := FY.out.cell
  go_wp2_with fail
  clear g0 g1
  refine (eqWd_c lo lo' [.slice a2 U.rs.length k2, .slice none 0 0, .slice none 0 0] [.slice d2 U.rs.length e2, .slice none 0 0, .slice none 0 0] _ _ (HP.out.below HB.out) (HQ.out.below HB.out)).mono ?_
  rintro e w2 ⟨rfl, hb⟩
  replace HB := hide (bt HB.out hb)
  replace FX := hide (FX.out.on hb)
  replace FY := hide (FY.out.on hb)
  clear hb
  have g0 := FX.out.cell
  have g1 := FY.out.cell
  go_wp2_with (first | (go_at_call 37; refine (eqHallAskedS_nil _).mono ?_; rintro e w' ⟨rfl, rfl⟩))
  go_ret
  exact ⟨rfl, HB.out⟩

set_option maxHeartbeats 4000000 in
theorem markHoP_any (t0 t1 g0 g1 lo hi : Nat) (a0 : Option Addr) (k0 : Nat) (a1 : Option Addr) (k1 : Nat) (U : Ho) (k : Int) (w : World) (h2 : TmsOwn t0 t1 w (.slice a0 U.tm.length k0) U.tm) (h3 : GrsOwn g0 g1 w (.slice a1 U.gr.length k1) U.gr) (hap : t1 ≤ g0 ∨ g1 ≤ t0) (z1 : lo ≤ t0) (z2 : t1 ≤ hi) (z3 : lo ≤ g0) (z4 : g1 ≤ hi) (hn : HoSmall U) (h0 : 0 ≤ k) (hk : k ≤ 1000000000000000000) (hhi : hi ≤ w.heap.size) :
    Calls Tryz.prog 11 #[.agg #[.slice a0 U.tm.length k0, .slice a1 U.gr.length k1], .int .i64 k] w fun e w' => e = .returned (.int .i64 (endHo k U)) ∧ Touch lo hi w w' ∧ TmsOwn t0 t1 w' (.slice a0 U.tm.length k0) (mkTms k U.tm) ∧ GrsOwn g0 g1 w' (.slice a1 U.gr.length k1) (mkGrs (k + (posTm U.tm U.tm.length : Int)) U.gr) := by
  have hl := few_small hn.1
  have hp := posTm_le hl (Nat.le_refl U.tm.length)
  have hl1 := hl.1
  have H2 := hide h2
  have H3 := hide h3
  have HN := hide hn
  have HT := hide hl
  clear h2 h3 hn
  go_enter Tryz.func11, Tryz.ntmps11
  go_wp2_with fail
  generalize hWa : w.alloc _ = Wa
  have HB : Hid (Below w.heap.size w Wa) := by unfold Hid; rw [← hWa]; exact one_al w _
  have FX : Hid (Box Wa w.heap.size #[.slice a0 U.tm.length k0, .slice a1 U.gr.length k1]) := by unfold Hid; rw [← hWa]; exact Box.new _ _ _ _ rfl
  clear hWa
  refine (markTms_any t0 t1 _ U.tm k _ (H2.out.below HB.out) HT.out h0 (by omega)).mono ?_
  rintro e w1 ⟨rfl, ht, ho⟩
  have HTo : Hid (Touch lo hi w w1) := (Touch.below HB.out).trans (ht.wide z1 z2)
  replace FX := hide (FX.out.touch ht (by omega))
  replace H3 := hide ((H3.out.below HB.out).touch ht (by omega))
  replace H2 : Hid (TmsOwn t0 t1 w1 (.slice a0 U.tm.length k0) (mkTms k U.tm)) := hide ho
  clear ht ho
  have gc := FX.out.cell
  go_wp2_with fail
  clear gc
  refine (markGrs_any g0 g1 _ U.gr _ _ H3.out HN.out.2 (by omega) (by omega)).mono ?_
  rintro e w2 ⟨rfl, ht, ho⟩
  replace HTo : Hid (Touch lo hi w w2) := HTo.out.trans (ht.wide z3 z4)
  replace H2 := hide (H2.out.touch ht (by omega))
  have HO := hide ho
  clear ht ho
  go_wp2
  go_ret
  exact ⟨rfl, HTo.out, H2.out, HO.out⟩

set_option maxHeartbeats 4000000 in
theorem heldHoP_any (t0 t1 g0 g1 : Nat) (a0 : Option Addr) (k0 : Nat) (a1 : Option Addr) (k1 : Nat) (U : Ho) (k : Int) (w : World) (h2 : TmsOwn t0 t1 w (.slice a0 U.tm.length k0) (mkTms k U.tm)) (h3 : GrsOwn g0 g1 w (.slice a1 U.gr.length k1) (mkGrs (k + (posTm U.tm U.tm.length : Int)) U.gr)) (hn : HoSmall U) (h0 : 0 ≤ k) (hk : k ≤ 1000000000000000000) :
    Calls Tryz.prog 44 #[.agg #[.slice a0 U.tm.length k0, .slice a1 U.gr.length k1], .int .i64 k] w fun e w' => e = .returned (.int .i64 (endHo k U)) ∧ Below w.heap.size w w' := by
  have hl := few_small hn.1
  have hp := posTm_le hl (Nat.le_refl U.tm.length)
  have hl1 := hl.1
  have H2 := hide h2
  have H3 := hide h3
  have HN := hide hn
  have HT := hide hl
  clear h2 h3 hn
  have hg0 : decide (k + (posTm U.tm U.tm.length : Int) < 0) = false := by simp; omega
  have hg1 : decide (k + (posTm U.tm U.tm.length : Int) + (posGr U.gr U.gr.length : Int) < 0) = false := by simp; omega
  go_enter Tryz.func44, Tryz.ntmps44
  go_wp2_with fail
  generalize hWa : w.alloc _ = Wa
  have HB : Hid (Below w.heap.size w Wa) := by unfold Hid; rw [← hWa]; exact one_al w _
  have FX : Hid (Box Wa w.heap.size #[.slice a0 U.tm.length k0, .slice a1 U.gr.length k1]) := by unfold Hid; rw [← hWa]; exact Box.new _ _ _ _ rfl
  clear hWa
  refine (heldTms_any t0 t1 _ U.tm k _ (H2.out.below HB.out) HT.out h0 (by omega)).mono ?_
  rintro e w1 ⟨rfl, hb⟩
  replace HB := hide (bt HB.out hb)
  replace FX := hide (FX.out.on hb)
  clear hb
  have gc := FX.out.cell
  go_wp2_with fail
  clear gc
  refine (heldGrs_any g0 g1 _ U.gr _ _ (H3.out.below HB.out) HN.out.2 (by omega) (by omega)).mono ?_
  rintro e w2 ⟨rfl, hb⟩
  replace HB := hide (bt HB.out hb)
  clear hb
  go_wp2
  go_ret
  exact ⟨rfl, HB.out⟩

def mkHn (k : Int) (U : Hn) : Hn := ⟨⟨mkTms k U.ho.tm, mkGrs (k + (posTm U.ho.tm U.ho.tm.length : Int)) U.ho.gr⟩, mkP (endHo k U.ho) U.rs.length⟩
def endHn (k : Int) (U : Hn) : Int := endHo k U.ho + 11 * (U.rs.length : Int)
theorem endHo_le {U : Ho} (h : HoSmall U) {k : Int} (hk : k ≤ 100) : endHo k U ≤ 1000000000000000000 := by
  have h1 := posTm_le (few_small h.1) (Nat.le_refl U.tm.length)
  have h2 := posGr_le h.2 (Nat.le_refl U.gr.length)
  have h3 := (few_small h.1).1
  have h4 := h.2.1
  unfold endHo
  omega
theorem hnL_mk (k : Int) (U : Hn) (a0 : Option Addr) (k0 : Nat) (a1 : Option Addr) (k1 : Nat) (a2 : Option Addr) (k2 : Nat) : hnL (mkHn k U) a0 k0 a1 k1 a2 k2 = hnL U a0 k0 a1 k1 a2 k2 := by
  unfold hnL mkHn
  simp only [mkTms_len, mkGrs_len, mkP_len]

set_option maxRecDepth 20000 in
set_option maxHeartbeats 8000000 in
theorem markHn_any (lo hi : Nat) (cs : List Value) (U : Hn) (k : Int) (w : World) (h : HnOwn lo hi w cs U) (hn : HoSmall U.ho) (hr5 : U.rs.length ≤ 5) (h0 : 0 ≤ k) (hk : k ≤ 100) (hhi : hi ≤ w.heap.size) :
    Calls Tryz.prog 12 #[.agg cs.toArray, .int .i64 k] w fun e w' => e = .returned (.int .i64 (endHn k U)) ∧ Touch lo hi w w' ∧ HnOwn lo hi w' cs (mkHn k U) := by
  obtain ⟨a0, k0, a1, k1, a2, k2, t0, t1, g0, g1, r0, r1, rfl, ⟨z1, z2, z3, z4, z5, z6, z7, z8⟩, h2, h3, h4⟩ := h
  show Calls Tryz.prog 12 #[.agg #[.slice a0 U.ho.tm.length k0, .slice a1 U.ho.gr.length k1, .slice a2 U.rs.length k2, .slice none 0 0, .slice none 0 0, .int .i64 0, .slice none 0 0], .int .i64 k] w _
  have H2 := hide h2
  have H3 := hide h3
  have H4 := hide h4
  have HN := hide hn
  have hq1 := endHo_le hn hk
  have hq0 : 0 ≤ endHo k U.ho := by unfold endHo; omega
  clear h2 h3 h4 hn
  go_enter Tryz.func12, Tryz.ntmps12
  go_wp2_with fail
  generalize hWa : w.alloc _ = Wa
  have HB : Hid (Below w.heap.size w Wa) := by unfold Hid; rw [← hWa]; exact one_al w _
  have FX : Hid (Box Wa w.heap.size #[.slice a0 U.ho.tm.length k0, .slice a1 U.ho.gr.length k1, .slice a2 U.rs.length k2, .slice none 0 0, .slice none 0 0, .int .i64 0, .slice none 0 0]) := by unfold Hid; rw [← hWa]; exact Box.new _ _ _ _ rfl
  have hsz : w.heap.size ≤ Wa.heap.size := HB.out.size
  clear hWa
  refine (markHoP_any t0 t1 g0 g1 lo r0 a0 k0 a1 k1 U.ho k _ (H2.out.below HB.out) (H3.out.below HB.out) z8 z1 z2 z3 z4 HN.out h0 (by omega) (by omega)).mono ?_
  rintro e w1 ⟨rfl, ht, ho2, ho3⟩
  have HT : Hid (Touch lo hi w w1) := (Touch.below HB.out).trans (ht.wide (Nat.le_refl _) z7)
  replace FX := hide (FX.out.touch ht (by omega))
  replace H2 := hide ho2
  replace H3 := hide ho3
  replace H4 := hide ((H4.out.below HB.out).touch ht (Or.inr (Nat.le_refl _)))
  have hsz1 := ht.size
  clear ht ho2 ho3
  generalize hqe : endHo k U.ho = q at *
  have HQE := hide hqe
  clear hqe
  have gc := FX.out.cell
  go_wp2_with fail
  clear gc
  refine (markW_any r0 r1 _ U.rs q _ H4.out (by omega) hr5 hq0 hq1).mono ?_
  rintro e w2 ⟨rfl, ht, ho⟩
  replace HT : Hid (Touch lo hi w w2) := HT.out.trans (ht.wide z6 z5)
  replace H2 := hide (H2.out.touch ht (Or.inl z2))
  replace H3 := hide (H3.out.touch ht (Or.inl z4))
  replace FX := hide (FX.out.tch2 ht (Or.inr (by omega)))
  replace H4 := hide ho
  clear ht ho
  have gc := FX.out.cell
  go_wp2_with (first | (go_at_call 43; refine (markHallAskedS_nil _ _).mono ?_; rintro e w' ⟨rfl, rfl⟩))
  go_ret
  refine ⟨by unfold endHn; rw [HQE.out]; rfl, HT.out, a0, k0, a1, k1, a2, k2, t0, t1, g0, g1, r0, r1, (hnL_mk ..).symm, ⟨z1, z2, z3, z4, z5, z6, z7, z8⟩, ?_, ?_, ?_⟩
  · simp only [mkHn, mkTms_len]; exact H2.out
  · simp only [mkHn, mkGrs_len]; exact H3.out
  · simp only [mkHn, mkP_len, HQE.out]; exact H4.out

set_option maxRecDepth 20000 in
set_option maxHeartbeats 8000000 in
theorem heldHn_any (lo hi : Nat) (cs : List Value) (U : Hn) (k : Int) (w : World) (h : HnOwn lo hi w cs (mkHn k U)) (hn : HoSmall U.ho) (hr5 : U.rs.length ≤ 5) (h0 : 0 ≤ k) (hk : k ≤ 100) :
    Calls Tryz.prog 13 #[.agg cs.toArray, .int .i64 k] w fun e w' => e = .returned (.int .i64 (endHn k U)) ∧ Below w.heap.size w w' := by
  obtain ⟨a0, k0, a1, k1, a2, k2, t0, t1, g0, g1, r0, r1, hc, -, h2, h3, h4⟩ := h
  rw [hnL_mk] at hc
  subst hc
  simp only [mkHn, mkTms_len, mkGrs_len, mkP_len] at h2 h3 h4
  show Calls Tryz.prog 13 #[.agg #[.slice a0 U.ho.tm.length k0, .slice a1 U.ho.gr.length k1, .slice a2 U.rs.length k2, .slice none 0 0, .slice none 0 0, .int .i64 0, .slice none 0 0], .int .i64 k] w _
  have H2 := hide h2
  have H3 := hide h3
  have H4 := hide h4
  have HN := hide hn
  have hq1 := endHo_le hn hk
  have hq0 : 0 ≤ endHo k U.ho := by unfold endHo; omega
  clear h2 h3 h4 hn
  go_enter Tryz.func13, Tryz.ntmps13
  go_wp2_with fail
  generalize hWa : w.alloc _ = Wa
  have HB : Hid (Below w.heap.size w Wa) := by unfold Hid; rw [← hWa]; exact one_al w _
  have FX : Hid (Box Wa w.heap.size #[.slice a0 U.ho.tm.length k0, .slice a1 U.ho.gr.length k1, .slice a2 U.rs.length k2, .slice none 0 0, .slice none 0 0, .int .i64 0, .slice none 0 0]) := by unfold Hid; rw [← hWa]; exact Box.new _ _ _ _ rfl
  clear hWa
  refine (heldHoP_any t0 t1 g0 g1 a0 k0 a1 k1 U.ho k _ (H2.out.below HB.out) (H3.out.below HB.out) HN.out h0 (by omega)).mono ?_
  rintro e w1 ⟨rfl, hb⟩
  replace HB := hide (bt HB.out hb)
  replace FX := hide (FX.out.on hb)
  clear hb
  generalize hqe : endHo k U.ho = q at *
  have HQE := hide hqe
  clear hqe
  have hg : decide (q < 0) = false := by simp; omega
  have gc := FX.out.cell
  go_wp2_with fail
  clear gc hg
  refine (heldW_any r0 r1 _ U.rs.length q _ (H4.out.below HB.out) hr5 hq0 hq1).mono ?_
  rintro e w2 ⟨rfl, hb⟩
  replace HB := hide (bt HB.out hb)
  replace FX := hide (FX.out.on hb)
  clear hb
  have gc := FX.out.cell
  have hz : decide (q + 11 * (U.rs.length : Int) < 0) = false := by simp; omega
  obtain ⟨p, hp⟩ : ∃ p, p = q + 11 * (U.rs.length : Int) := ⟨_, rfl⟩
  rw [← hp] at hz ⊢
  have HP := hide hp
  clear hp
  go_wp2_with (first | (go_at_call 46; refine (heldHallAskedS_nil _ _).mono ?_; rintro e w' ⟨rfl, rfl⟩))
  go_ret
  exact ⟨by show Ending.returned (Value.int .i64 p) = _; unfold endHn; rw [HP.out, HQE.out], HB.out⟩
end Go.Proofs.YtdeammfdkaomlaaGreat
