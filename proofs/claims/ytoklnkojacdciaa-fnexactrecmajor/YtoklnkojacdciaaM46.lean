import Derived.Test.YtoklnkojacdciaaM45
namespace Go.Proofs.Ytoklnkojacdciaa
open Go.RowKit Go.Deep

theorem safe_one {D : Rd} (h : diskB D = true) : D.sl.length ≤ 120 ∧ ∀ s ∈ D.sl, 0 ≤ s.ba ∧ s.ba ≤ 1000000 := by
  unfold diskB slotsB at h
  simp only [Bool.and_eq_true, decide_eq_true_eq] at h
  obtain ⟨_, ⟨h1, h2⟩, _⟩ := h
  refine ⟨h1, fun s hs => ?_⟩
  have := List.all_eq_true.1 h2 s hs
  unfold slotB inB at this
  simp only [Bool.and_eq_true, decide_eq_true_eq] at this
  exact this.1
theorem wld_recs {U : Wd} (h : wldB U = true) : U.rs.length ≤ 5 ∧ ∀ i (hi : i < U.rs.length), validR U.rs[i] = true := by
  unfold wldB recsB inB at h
  simp only [Bool.and_eq_true, decide_eq_true_eq] at h
  obtain ⟨h1, _, h3, _⟩ := h
  refine ⟨by omega, fun i hi => ?_⟩
  have := List.all_eq_true.1 h3 i (List.mem_range.2 hi)
  rw [rok_at hi, Bool.and_eq_true] at this
  exact this.1
theorem safe_ok {U : Wd} (h : wldB U = true) : SafeOk U.rs := by
  obtain ⟨h1, h2⟩ := wld_recs h
  refine ⟨h1, fun x hx => ?_⟩
  obtain ⟨i, hi, rfl⟩ := List.getElem_of_mem hx
  have := h2 i hi
  unfold validR at this
  simp only [Bool.and_eq_true] at this
  exact safe_one this.2.2.1
def majW (U : Wd) (ix : Int) : Option ByteArray := if wldB U = true then majR U.rs ix else none
theorem majV_two (o : Option ByteArray) : ∃ t b, majV o = #[.string t, .bool b] := by
  cases o with
  | none => exact ⟨_, _, rfl⟩
  | some t => exact ⟨_, _, rfl⟩

set_option maxHeartbeats 4000000 in
theorem specMajor_any (lo : Nat) (cs : List Value) (U : Wd) (ix : Int) (w : World) (h : WdC lo w cs U) (hn : WdSmall U) :
    Calls Try.prog 16 #[.agg cs.toArray, .int .i64 ix] w fun e w' => e = .returned (.tuple (majV (majW U ix))) ∧ Below w.heap.size w w' := by
  have HC := hide h
  have HN := hide hn
  obtain ⟨a0, k0, a1, k1, a2, k2, rfl, -⟩ := h
  show Calls Try.prog 16 #[.agg #[.slice a0 U.rs.length k0, .slice a1 U.fl.length k1, .slice a2 U.fx.length k2], .int .i64 ix] w _
  clear hn
  go_enter Try.func16, Try.ntmps16
  go_wp2_with fail
  obtain ⟨Wa, hWa, HB, FX⟩ : ∃ Wa, Wa = w.alloc (.cells #[.slice a0 U.rs.length k0, .slice a1 U.fl.length k1, .slice a2 U.fx.length k2] 26) ∧ Hid (Below w.heap.size w Wa) ∧ Hid (Box Wa w.heap.size #[.slice a0 U.rs.length k0, .slice a1 U.fl.length k1, .slice a2 U.fx.length k2]) := ⟨_, rfl, one_al _ _, Box.new _ _ _ _ rfl⟩
  rw [← hWa]
  clear hWa
  refine (specWorldR_any lo _ U _ (HC.out.below HB.out) HN.out).mono ?_
  rintro e w1 ⟨rfl, hb1⟩
  replace HB := hide (bt HB.out hb1)
  replace FX := hide (FX.out.on hb1)
  clear hb1
  cases q : wldB U with
  | false =>
    have HE : Hid (majW U ix = none) := by unfold Hid majW; rw [q]; rfl
    go_wp2
    refine bodyPost_ret (v := .tuple #[.string ⟨#[]⟩, .bool false]) (by simp [results, Try.results16, go_sem]) rfl ⟨by rw [HE.out]; rfl, HB.out⟩
  | true =>
    have HE : Hid (majW U ix = majR U.rs ix) := by unfold Hid majW; rw [q]; rfl
    have HSO := hide (safe_ok q)
    have g0 := FX.out.cell
    go_wp2_with fail
    clear g0
    refine (majS_any lo _ U ix _ (HC.out.below HB.out) HSO.out).mono ?_
    rintro e w2 ⟨rfl, hb2⟩
    replace HB := hide (bt HB.out hb2)
    obtain ⟨t, b, hv⟩ := majV_two (majR U.rs ix)
    have HV := hide hv
    rw [hv]
    clear hb2 hv
    go_wp2
    refine bodyPost_ret (v := .tuple #[.string t, .bool b]) (by simp [results, Try.results16, go_sem]) rfl ⟨by rw [HE.out, HV.out], HB.out⟩
set_option maxHeartbeats 4000000 in
theorem implMajor_any (lo : Nat) (cs : List Value) (U : Wd) (ix : Int) (w : World) (h : WdC lo w cs U) :
    Calls Try.prog 17 #[.agg cs.toArray, .int .i64 ix] w fun e w' => e = .returned (.tuple (majV (majW U ix))) ∧ Below w.heap.size w w' := by
  have HC := hide h
  obtain ⟨a0, k0, a1, k1, a2, k2, rfl, hl⟩ := h
  have HL := hide hl.l0
  show Calls Try.prog 17 #[.agg #[.slice a0 U.rs.length k0, .slice a1 U.fl.length k1, .slice a2 U.fx.length k2], .int .i64 ix] w _
  clear hl
  go_enter Try.func17, Try.ntmps17
  go_wp2_with fail
  obtain ⟨Wa, hWa, HB, FX⟩ : ∃ Wa, Wa = w.alloc (.cells #[.slice a0 U.rs.length k0, .slice a1 U.fl.length k1, .slice a2 U.fx.length k2] 26) ∧ Hid (Below w.heap.size w Wa) ∧ Hid (Box Wa w.heap.size #[.slice a0 U.rs.length k0, .slice a1 U.fl.length k1, .slice a2 U.fx.length k2]) := ⟨_, rfl, one_al _ _, Box.new _ _ _ _ rfl⟩
  rw [← hWa]
  clear hWa
  refine (implWorldR_any lo _ U _ (HC.out.below HB.out)).mono ?_
  rintro e w1 ⟨rfl, hb1⟩
  replace HB := hide (bt HB.out hb1)
  replace FX := hide (FX.out.on hb1)
  clear hb1
  cases q : wldB U with
  | false =>
    have HE : Hid (majW U ix = none) := by unfold Hid majW; rw [q]; rfl
    go_wp2
    refine bodyPost_ret (v := .tuple #[.string ⟨#[]⟩, .bool false]) (by simp [results, Try.results17, go_sem]) rfl ⟨by rw [HE.out]; rfl, HB.out⟩
  | true =>
    have HE : Hid (majW U ix = majR U.rs ix) := by unfold Hid majW; rw [q]; rfl
    have HSO := hide (safe_ok q)
    have g0 := FX.out.cell
    go_wp2_with fail
    clear g0
    refine (majI_any lo _ U.rs ix _ (HL.out.below HB.out) HSO.out).mono ?_
    rintro e w2 ⟨rfl, hb2⟩
    replace HB := hide (bt HB.out hb2)
    obtain ⟨t, b, hv⟩ := majV_two (majR U.rs ix)
    have HV := hide hv
    rw [hv]
    clear hb2 hv
    go_wp2
    refine bodyPost_ret (v := .tuple #[.string t, .bool b]) (by simp [results, Try.results17, go_sem]) rfl ⟨by rw [HE.out, HV.out], HB.out⟩
end Go.Proofs.Ytoklnkojacdciaa
