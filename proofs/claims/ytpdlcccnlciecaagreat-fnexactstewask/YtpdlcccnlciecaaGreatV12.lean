import Derived.Test.YtpdlcccnlciecaaGreatV08
import Derived.Test.YtpdlcccnlciecaaGreatV11
namespace Go.Proofs.YtpdlcccnlciecaaGreat
open Go.RowKit Go.Deep

set_option maxRecDepth 20000 in
set_option maxHeartbeats 2000000 in
theorem service_any (lo : Nat) (sv cv bv : Value) (B : Sb) (s : ByteArray) (w : World) (h : SbAt lo w sv cv bv B) :
    Calls Tryz.prog 61 #[.agg #[.int .i64 B.now, sv, cv, bv], .string s] w fun e w' => ∃ r : Int, e = .returned (.int .i64 r) ∧ Below w.heap.size w w' ∧ (SvPl B.ss s r) := by
  have HK := hide h
  obtain ⟨a0, k0, rfl⟩ := h.svs.form
  obtain ⟨a1, k1, rfl⟩ := h.cps.form
  obtain ⟨a2, k2, rfl⟩ := h.bes.form
  have hmx := h.svs.max
  unfold maxLen at hmx
  clear h
  go_enter Tryz.func61, Tryz.ntmps61
  go_wp2
  generalize hWa : w.alloc _ = Wa
  have HB0 : Hid (Below w.heap.size w Wa) := by rw [← hWa]; exact one_al w _
  have HX0 : Hid (Box Wa w.heap.size #[.int .i64 B.now, .slice a0 B.ss.length k0, .slice a1 B.cs.length k1, .slice a2 B.bs.length k2]) := by rw [← hWa]; exact Box.new _ _ _ _ rfl
  clear hWa
  have x1 := HX0.out.cell 1
  simp at x1
  go_loop [5] (fun i => ∃ k : Nat, i = .int .i64 k ∧ k ≤ B.ss.length ∧ (∀ j (hj : j < B.ss.length), j < k → (B.ss[j].nm.toList == s.toList) = false)) (fun i => B.ss.length - (intOf i).toNat)
  case atStart => exact ⟨0, rfl, by omega, fun j _ h => by omega⟩
  case round =>
    obtain ⟨k, rfl, hk, hall⟩ := hrel
    have HA := hide hall
    clear hall
    by_cases hlt : k < B.ss.length
    · obtain ⟨b, off, rfl, hbw, -, hc⟩ := HK.out.svs.full' (by omega)
      obtain ⟨hs, hc⟩ := hc k hlt
      have c0 := (hc.below HB0.out hbw).c0
      clear hc hs
      cases he : (B.ss[k].nm.toList == s.toList) with
      | true =>
        have HS := hide (SvPl.at hlt HA.out he)
        go_wp2
        go_ret
        exact ⟨_, rfl, HB0.out, HS.out⟩
      | false =>
        have HN := hide he
        go_wp2
        go_round
        case rel => exact ⟨k + 1, by go_num, by omega, fun j hj h => by
                      by_cases e : j = k
                      · subst e; exact HN.out
                      · exact HA.out j hj (by omega)⟩
        case measure => simp [intOf]; omega
    · have HS := hide ((show SvPl B.ss s (-1 : Int) from Or.inl ⟨rfl, find_none (f := fun x : Sv => x.nm.toList == s.toList) (fun j hj => HA.out j hj (by omega))⟩))
      go_wp2
      go_ret
      exact ⟨_, rfl, HB0.out, HS.out⟩

set_option maxRecDepth 20000 in
set_option maxHeartbeats 2000000 in
theorem berth_any (lo : Nat) (sv cv bv : Value) (B : Sb) (s : ByteArray) (w : World) (h : SbAt lo w sv cv bv B) :
    Calls Tryz.prog 62 #[.agg #[.int .i64 B.now, sv, cv, bv], .string s] w fun e w' => ∃ r : Int, e = .returned (.int .i64 r) ∧ Below w.heap.size w w' ∧ (BePl B.bs s r) := by
  have HK := hide h
  obtain ⟨a0, k0, rfl⟩ := h.svs.form
  obtain ⟨a1, k1, rfl⟩ := h.cps.form
  obtain ⟨a2, k2, rfl⟩ := h.bes.form
  have hmx := h.bes.max
  unfold maxLen at hmx
  clear h
  go_enter Tryz.func62, Tryz.ntmps62
  go_wp2
  generalize hWa : w.alloc _ = Wa
  have HB0 : Hid (Below w.heap.size w Wa) := by rw [← hWa]; exact one_al w _
  have HX0 : Hid (Box Wa w.heap.size #[.int .i64 B.now, .slice a0 B.ss.length k0, .slice a1 B.cs.length k1, .slice a2 B.bs.length k2]) := by rw [← hWa]; exact Box.new _ _ _ _ rfl
  clear hWa
  have x1 := HX0.out.cell 3
  simp at x1
  go_loop [5] (fun i => ∃ k : Nat, i = .int .i64 k ∧ k ≤ B.bs.length ∧ (∀ j (hj : j < B.bs.length), j < k → (B.bs[j].nm.toList == s.toList) = false)) (fun i => B.bs.length - (intOf i).toNat)
  case atStart => exact ⟨0, rfl, by omega, fun j _ h => by omega⟩
  case round =>
    obtain ⟨k, rfl, hk, hall⟩ := hrel
    have HA := hide hall
    clear hall
    by_cases hlt : k < B.bs.length
    · obtain ⟨b, off, rfl, hbw, -, hc⟩ := HK.out.bes.full' (by omega)
      obtain ⟨hs, hc⟩ := hc k hlt
      have c0 := (hc.below HB0.out hbw).c0
      clear hc hs
      cases he : (B.bs[k].nm.toList == s.toList) with
      | true =>
        have HS := hide ((show BePl B.bs s (k : Int) from by unfold BePl; rw [decide_eq_true (by omega)]; exact (any_at (f := fun x : Be => x.nm.toList == s.toList) hlt he).symm))
        go_wp2
        go_ret
        exact ⟨_, rfl, HB0.out, HS.out⟩
      | false =>
        have HN := hide he
        go_wp2
        go_round
        case rel => exact ⟨k + 1, by go_num, by omega, fun j hj h => by
                      by_cases e : j = k
                      · subst e; exact HN.out
                      · exact HA.out j hj (by omega)⟩
        case measure => simp [intOf]; omega
    · have HS := hide ((show BePl B.bs s (-1 : Int) from by unfold BePl; rw [decide_eq_false (by omega)]; exact (any_none (f := fun x : Be => x.nm.toList == s.toList) (fun j hj => HA.out j hj (by omega))).symm))
      go_wp2
      go_ret
      exact ⟨_, rfl, HB0.out, HS.out⟩

set_option maxHeartbeats 2000000 in
theorem ahead_any (a b : Cp) (w : World) :
    Calls Tryz.prog 41 #[.agg #[.string a.se, .int .i64 a.nu, .int .i64 a.ve, .int .i64 a.im, .int .i64 a.st, .bool a.en, .string a.be], .agg #[.string b.se, .int .i64 b.nu, .int .i64 b.ve, .int .i64 b.im, .int .i64 b.st, .bool b.en, .string b.be]] w fun e w' => e = .returned (.bool (aheadB a b)) ∧ Below w.heap.size w w' := by
  have HI : Hid (aheadB a b = (Op.bytesLess a.se.toList b.se.toList || ((a.se.toList == b.se.toList) && decide (a.nu < b.nu)))) := rfl
  have HO : ∀ o o', Hid (Below w.heap.size w ((w.alloc o).alloc o')) := fun o o' => (one_al w o).alloc (by simp) o'
  go_enter Tryz.func41, Tryz.ntmps41
  cases h1 : Op.bytesLess a.se.toList b.se.toList with
  | true =>
    have HE : Hid (aheadB a b = true) := by unfold Hid; rw [HI.out, h1]; rfl
    go_wp2
    go_ret
    exact ⟨ret_bool HE.out.symm, (HO _ _).out⟩
  | false =>
    cases h2 : (a.se.toList == b.se.toList) with
    | false =>
      have HE : Hid (aheadB a b = false) := by unfold Hid; rw [HI.out, h1, h2]; rfl
      go_wp2
      go_ret
      exact ⟨ret_bool HE.out.symm, (HO _ _).out⟩
    | true =>
      have HE : Hid (aheadB a b = decide (a.nu < b.nu)) := by unfold Hid; rw [HI.out, h1, h2]; rfl
      go_wp2
      go_ret
      exact ⟨ret_bool HE.out.symm, (HO _ _).out⟩

set_option maxRecDepth 20000 in
set_option maxHeartbeats 8000000 in
theorem copyOk_any (lo : Nat) (sv cv bv : Value) (B : Sb) (c : Cp) (w : World) (h : SbAt lo w sv cv bv B) (hss : B.ss.all (svB B.now) = true) :
    Calls Tryz.prog 40 #[.agg #[.int .i64 B.now, sv, cv, bv], .agg #[.string c.se, .int .i64 c.nu, .int .i64 c.ve, .int .i64 c.im, .int .i64 c.st, .bool c.en, .string c.be]] w fun e w' => e = .returned (.bool (cpB B c)) ∧ Below w.heap.size w w' := by
  have HK := hide h
  have HSS := hide hss
  obtain ⟨a0, k0, rfl⟩ := h.svs.form
  obtain ⟨a1, k1, rfl⟩ := h.cps.form
  obtain ⟨a2, k2, rfl⟩ := h.bes.form
  clear h hss
  go_enter Tryz.func40, Tryz.ntmps40
  go_wp2_with fail
  generalize hWa : World.alloc (w.alloc _) _ = Wa
  have HB0 : Hid (Below w.heap.size w Wa) := by rw [← hWa]; exact (one_al w _).alloc (by simp) _
  have FA0 : Hid (Box Wa w.heap.size #[.int .i64 B.now, .slice a0 B.ss.length k0, .slice a1 B.cs.length k1, .slice a2 B.bs.length k2]) := by rw [← hWa]; exact (Box.new _ _ _ _ rfl).on (one_al _ _)
  have FB0 : Hid (Box Wa (w.heap.size + 1) #[.string c.se, .int .i64 c.nu, .int .i64 c.ve, .int .i64 c.im, .int .i64 c.st, .bool c.en, .string c.be]) := by rw [← hWa]; exact Box.new _ _ _ _ (by simp)
  clear hWa
  refine (service_any lo _ _ _ B c.se _ (HK.out.below HB0.out)).mono ?_
  rintro e w1 ⟨r, rfl, hb1, hr⟩
  have HB1 : Hid (Below w.heap.size w w1) := bt HB0.out hb1
  have FA1 := hide (FA0.out.on hb1)
  have FB1 := hide (FB0.out.on hb1)
  clear hb1 FA0 FB0 HB0
  have y4 := FB1.out.cell 4
  have y6 := FB1.out.cell 6
  simp at y4 y6
  have xn : Nonempty (In (Up w1)) := ⟨⟨w1, Below.refl _ _⟩⟩
  have xs := fun (X : In (Up w1)) => in_self X
  have x0 : ∀ X : In (Up w1), X.w.cell? ⟨w.heap.size, 0, none⟩ = some (.int .i64 B.now) := fun X => Up.cell X (by rw [FA1.out.cell 0]; rfl)
  have x1 : ∀ X : In (Up w1), X.w.cell? ⟨w.heap.size, 1, none⟩ = some (.slice a0 B.ss.length k0) := fun X => Up.cell X (by rw [FA1.out.cell 1]; rfl)
  have z1 : ∀ X : In (Up w1), X.w.cell? ⟨w.heap.size + 1, 1, none⟩ = some (.int .i64 c.nu) := fun X => Up.cell X (by rw [FB1.out.cell 1]; rfl)
  have z2 : ∀ X : In (Up w1), X.w.cell? ⟨w.heap.size + 1, 2, none⟩ = some (.int .i64 c.ve) := fun X => Up.cell X (by rw [FB1.out.cell 2]; rfl)
  have z3 : ∀ X : In (Up w1), X.w.cell? ⟨w.heap.size + 1, 3, none⟩ = some (.int .i64 c.im) := fun X => Up.cell X (by rw [FB1.out.cell 3]; rfl)
  have z4 : ∀ X : In (Up w1), X.w.cell? ⟨w.heap.size + 1, 4, none⟩ = some (.int .i64 c.st) := fun X => Up.cell X (by rw [FB1.out.cell 4]; rfl)
  rcases hr with ⟨rfl, hf⟩ | ⟨rfl, hi, hf⟩
  · have HE : Hid (cpB B c = false) := by unfold Hid cpB; rw [hf]
    clear hf
    go_wp2
    go_cut [44] (fun q wc => q = .bool true ∧ Below w1.heap.size w1 wc)
    case first =>
      refine wp_region_class (Up w1) (by kernel_rfl) (by kernel_rfl) ((Below.refl _ _).drew) ?_
      repeat (go_big_quiet_step (first | (go_at_call 37; rename_i X; exact (in_any _ _ _ _).mono fun _ _ h => ⟨h.1, X, h.2⟩)))
      refine wpQuiet_nil ?_
      intro wn hw
      obtain ⟨X, hX⟩ := hw
      have HWN : Below w1.heap.size w1 wn := by rw [hX]; exact X.h
      clear hX X x0 x1 z1 z2 z3 z4 xs xn
      go_wp2
      go_meet
      exact ⟨rfl, HWN⟩
    case rest =>
    obtain ⟨rfl, hbc⟩ := hcut
    have HBc : Hid (Below w.heap.size w wc) := bt HB1.out hbc
    clear hbc x0 x1 z1 z2 z3 z4 xs xn y4 y6
    go_wp2
    go_ret
    exact ⟨ret_bool HE.out.symm, HBc.out⟩
  · generalize svI B.ss c.se = i at *
    have hnx := svB_nx (all_at HSS.out hi)
    have HE0 : Hid (cpB B c = (inB 1 (B.ss[i].nx - 1) c.nu && (inB 1 B.now c.ve && (inB 1 1000000 c.im && (inB 1 4 c.st && (if c.st == 1 then c.be.toList.isEmpty else hasBe B.bs c.be)))))) := by unfold Hid cpB; rw [hf]; rfl
    have hw : IntKind.i64.wrap (B.ss[i].nx - 1) = B.ss[i].nx - 1 := by rw [IntWalk.i64_left]; unfold wrap64; omega
    obtain ⟨b, off, rfl, hbw, -, hc⟩ := HK.out.svs.full' (by omega)
    have c7 := ((hc i hi).2.below HB1.out hbw).c7
    have s7 : ∀ X : In (Up w1), X.w.cell? ⟨b, off + i * 13 + 7, none⟩ = some (.int .i64 B.ss[i].nx) := fun X => Up.cell X c7
    have i0 : (0 : Int) ≤ (i : Int) := by omega
    have i1 : (i : Int) < (B.ss.length : Int) := by omega
    have hneg : decide ((i : Int) < 0) = false := by simp
    clear hf hc c7 hnx
    go_wp2
    go_cut [44] (fun q wc => q = .bool (!(inB 1 (B.ss[i].nx - 1) c.nu && (inB 1 B.now c.ve && (inB 1 1000000 c.im && inB 1 4 c.st)))) ∧ Below w1.heap.size w1 wc)
    case first =>
      refine wp_region_class (Up w1) (by kernel_rfl) (by kernel_rfl) ((Below.refl _ _).drew) ?_
      cases q1 : inB 1 (B.ss[i].nx - 1) c.nu with
      | false =>
        repeat (go_big_quiet_step (first | (go_at_call 37; rename_i X; exact (in_any _ _ _ _).mono fun _ _ h => ⟨h.1, X, h.2⟩)))
        refine wpQuiet_nil ?_
        intro wn hw
        obtain ⟨X, hX⟩ := hw
        have HWN : Below w1.heap.size w1 wn := by rw [hX]; exact X.h
        clear hX X x0 x1 z1 z2 z3 z4 xs xn s7
        go_wp2
        go_meet
        exact ⟨congrArg Value.bool (by rw [q1]; rfl), HWN⟩
      | true =>
      cases q2 : inB 1 B.now c.ve with
      | false =>
        repeat (go_big_quiet_step (first | (go_at_call 37; rename_i X; exact (in_any _ _ _ _).mono fun _ _ h => ⟨h.1, X, h.2⟩)))
        refine wpQuiet_nil ?_
        intro wn hw
        obtain ⟨X, hX⟩ := hw
        have HWN : Below w1.heap.size w1 wn := by rw [hX]; exact X.h
        clear hX X x0 x1 z1 z2 z3 z4 xs xn s7
        go_wp2
        go_meet
        exact ⟨congrArg Value.bool (by rw [q1, q2]; rfl), HWN⟩
      | true =>
      cases q3 : inB 1 1000000 c.im with
      | false =>
        repeat (go_big_quiet_step (first | (go_at_call 37; rename_i X; exact (in_any _ _ _ _).mono fun _ _ h => ⟨h.1, X, h.2⟩)))
        refine wpQuiet_nil ?_
        intro wn hw
        obtain ⟨X, hX⟩ := hw
        have HWN : Below w1.heap.size w1 wn := by rw [hX]; exact X.h
        clear hX X x0 x1 z1 z2 z3 z4 xs xn s7
        go_wp2
        go_meet
        exact ⟨congrArg Value.bool (by rw [q1, q2, q3]; rfl), HWN⟩
      | true =>
      cases q4 : inB 1 4 c.st with
      | false =>
        repeat (go_big_quiet_step (first | (go_at_call 37; rename_i X; exact (in_any _ _ _ _).mono fun _ _ h => ⟨h.1, X, h.2⟩)))
        refine wpQuiet_nil ?_
        intro wn hw
        obtain ⟨X, hX⟩ := hw
        have HWN : Below w1.heap.size w1 wn := by rw [hX]; exact X.h
        clear hX X x0 x1 z1 z2 z3 z4 xs xn s7
        go_wp2
        go_meet
        exact ⟨congrArg Value.bool (by rw [q1, q2, q3, q4]; rfl), HWN⟩
      | true =>
      repeat (go_big_quiet_step (first | (go_at_call 37; rename_i X; exact (in_any _ _ _ _).mono fun _ _ h => ⟨h.1, X, h.2⟩)))
      refine wpQuiet_nil ?_
      intro wn hw
      obtain ⟨X, hX⟩ := hw
      have HWN : Below w1.heap.size w1 wn := by rw [hX]; exact X.h
      clear hX X x0 x1 z1 z2 z3 z4 xs xn s7
      go_wp2
      go_meet
      exact ⟨congrArg Value.bool (by rw [q1, q2, q3, q4]; rfl), HWN⟩
    case rest =>
    obtain ⟨rfl, hbc⟩ := hcut
    have HBc : Hid (Below w.heap.size w wc) := bt HB1.out hbc
    have FAc := hide (FA1.out.on hbc)
    have FBc := hide (FB1.out.on hbc)
    clear hbc x0 x1 z1 z2 z3 z4 xs xn y4 y6 s7 hw hneg i0 i1 FA1 FB1 HB1
    have y4 := FBc.out.cell 4
    have y6 := FBc.out.cell 6
    simp at y4 y6
    cases h5 : (inB 1 (B.ss[i].nx - 1) c.nu && (inB 1 B.now c.ve && (inB 1 1000000 c.im && inB 1 4 c.st))) with
    | false =>
      have HE : Hid (cpB B c = false) := by
        unfold Hid
        rw [HE0.out]
        cases q1 : inB 1 (B.ss[i].nx - 1) c.nu <;> cases q2 : inB 1 B.now c.ve <;> cases q3 : inB 1 1000000 c.im <;> cases q4 : inB 1 4 c.st <;> first | rfl | (exfalso; rw [q1, q2, q3, q4] at h5; cases h5)
      go_wp2
      go_ret
      exact ⟨ret_bool HE.out.symm, HBc.out⟩
    | true =>
      have HE : Hid (cpB B c = if c.st == 1 then c.be.toList.isEmpty else hasBe B.bs c.be) := by
        unfold Hid
        simp only [Bool.and_eq_true] at h5
        rw [HE0.out, h5.1, h5.2.1, h5.2.2.1, h5.2.2.2]
        rfl
      cases h6 : (c.st == 1) with
      | true =>
        have HE2 : Hid (cpB B c = c.be.toList.isEmpty) := by unfold Hid; rw [HE.out, h6]; rfl
        go_wp2
        go_ret
        exact ⟨ret_bool HE2.out.symm, HBc.out⟩
      | false =>
        have HE2 : Hid (cpB B c = hasBe B.bs c.be) := by unfold Hid; rw [HE.out, h6]; rfl
        have g0 := FAc.out.cell
        go_wp2_with fail
        clear g0
        refine (berth_any lo _ _ _ B c.be _ (HK.out.below HBc.out)).mono ?_
        rintro e w3 ⟨r3, rfl, hb3, hr3⟩
        have HB3 : Hid (Below w.heap.size w w3) := bt HBc.out hb3
        have HR := hide hr3
        clear hb3 hr3
        go_wp2
        go_ret
        exact ⟨ret_bool (by rw [HE2.out]; exact HR.out), HB3.out⟩
end Go.Proofs.YtpdlcccnlciecaaGreat
