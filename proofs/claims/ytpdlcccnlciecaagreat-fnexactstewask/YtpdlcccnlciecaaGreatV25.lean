import Derived.Test.YtpdlcccnlciecaaGreatV22
namespace Go.Proofs.YtpdlcccnlciecaaGreat
open Go.RowKit Go.Deep

/-- the place of a berth, or -1 -/
def BeP (L : List Be) (s : ByteArray) (r : Int) : Prop := (r = -1 ∧ L.find? (fun x => x.nm.toList == s.toList) = none) ∨ ∃ (k : Nat) (h : k < L.length), r = (k : Int) ∧ L.find? (fun x => x.nm.toList == s.toList) = some L[k]
theorem BeP.at {L : List Be} {s : ByteArray} {k : Nat} (hk : k < L.length) (hno : ∀ j (h : j < L.length), j < k → (L[j].nm.toList == s.toList) = false) (h : (L[k].nm.toList == s.toList) = true) : BeP L s (k : Int) := by
  refine Or.inr ⟨k, hk, rfl, ?_⟩
  rw [List.find?_eq_some_iff_getElem]
  exact ⟨h, k, hk, rfl, fun j hj => by simpa using hno j (by omega) hj⟩
set_option maxRecDepth 20000 in
set_option maxHeartbeats 2000000 in
theorem berthP_any (lo : Nat) (sv cv bv : Value) (B : Sb) (s : ByteArray) (w : World) (h : SbAt lo w sv cv bv B) :
    Calls Tryz.prog 62 #[.agg #[.int .i64 B.now, sv, cv, bv], .string s] w fun e w' => ∃ r : Int, e = .returned (.int .i64 r) ∧ Below w.heap.size w w' ∧ (BeP B.bs s r) := by
  have HK := hide h
  obtain ⟨a0, k0, rfl⟩ := h.svs.form
  obtain ⟨a1, k1, rfl⟩ := h.cps.form
  obtain ⟨a2, k2, rfl⟩ := h.bes.form
  have hmx := h.bes.max
  unfold maxLen at hmx
  clear h
  go_enter Tryz.func62, Tryz.ntmps62
  go_wp2
  generalize hWa : w.alloc _ = Wa
  have HB0 : Hid (Below w.heap.size w Wa) := by rw [← hWa]; exact one_al w _
  have HX0 : Hid (Box Wa w.heap.size #[.int .i64 B.now, .slice a0 B.ss.length k0, .slice a1 B.cs.length k1, .slice a2 B.bs.length k2]) := by rw [← hWa]; exact Box.new _ _ _ _ rfl
  clear hWa
  have x1 := HX0.out.cell 3
  simp at x1
  go_loop [5] (fun i => ∃ k : Nat, i = .int .i64 k ∧ k ≤ B.bs.length ∧ (∀ j (hj : j < B.bs.length), j < k → (B.bs[j].nm.toList == s.toList) = false)) (fun i => B.bs.length - (intOf i).toNat)
  case atStart => exact ⟨0, rfl, by omega, fun j _ h => by omega⟩
  case round =>
    obtain ⟨k, rfl, hk, hall⟩ := hrel
    have HA := hide hall
    clear hall
    by_cases hlt : k < B.bs.length
    · obtain ⟨b, off, rfl, hbw, -, hc⟩ := HK.out.bes.full' (by omega)
      obtain ⟨hs, hc⟩ := hc k hlt
      have c0 := (hc.below HB0.out hbw).c0
      clear hc hs
      cases he : (B.bs[k].nm.toList == s.toList) with
      | true =>
        have HS := hide (BeP.at hlt HA.out he)
        go_wp2
        go_ret
        exact ⟨_, rfl, HB0.out, HS.out⟩
      | false =>
        have HN := hide he
        go_wp2
        go_round
        case rel => exact ⟨k + 1, by go_num, by omega, fun j hj h => by
                      by_cases e : j = k
                      · subst e; exact HN.out
                      · exact HA.out j hj (by omega)⟩
        case measure => simp [intOf]; omega
    · have HS := hide ((show BeP B.bs s (-1 : Int) from Or.inl ⟨rfl, find_none (f := fun x : Be => x.nm.toList == s.toList) (fun j hj => HA.out j hj (by omega))⟩))
      go_wp2
      go_ret
      exact ⟨_, rfl, HB0.out, HS.out⟩


set_option maxRecDepth 100000 in
set_option maxHeartbeats 4000000 in
theorem l16Drains_any (lo : Nat) (sv cv bv : Value) (B : Sb) (c : Cp) (w : World) (h : SbAt lo w sv cv bv B) :
    Calls Tryz.prog 63 #[.agg #[.int .i64 B.now, sv, cv, bv], .agg #[.string c.se, .int .i64 c.nu, .int .i64 c.ve, .int .i64 c.im, .int .i64 c.st, .bool c.en, .string c.be]] w fun e w' => e = .returned (.bool (drB B c)) ∧ Below w.heap.size w w' := by
  have HK := hide h
  obtain ⟨a0, k0, rfl⟩ := h.svs.form
  obtain ⟨a1, k1, rfl⟩ := h.cps.form
  obtain ⟨a2, k2, rfl⟩ := h.bes.form
  clear h
  go_enter Tryz.func63, Tryz.ntmps63
  go_wp2_with fail
  generalize hWa : World.alloc (w.alloc _) _ = Wa
  have HB : Hid (Below w.heap.size w Wa) := by unfold Hid; rw [← hWa]; exact (one_al w _).alloc (by simp) _
  have F1 : Hid (Box Wa w.heap.size #[.int .i64 B.now, .slice a0 B.ss.length k0, .slice a1 B.cs.length k1, .slice a2 B.bs.length k2]) := by unfold Hid; rw [← hWa]; exact (Box.new _ _ _ _ rfl).on (one_al _ _)
  clear hWa
  refine (berthP_any lo _ _ _ B c.be _ (HK.out.below HB.out)).mono ?_
  rintro e w1 ⟨r, rfl, hb1, hp⟩
  replace HB := hide (bt HB.out hb1)
  replace F1 := hide (F1.out.on hb1)
  clear hb1
  rcases hp with ⟨rfl, hf⟩ | ⟨k, hk, rfl, hf⟩
  · have HE : Hid (drB B c = false) := by unfold Hid drB; rw [hf]
    go_wp2
    go_ret
    exact ⟨ret_bool HE.out.symm, HB.out⟩
  · have HE : Hid (drB B c = B.bs[k].dr) := by unfold Hid drB; rw [hf]
    obtain ⟨bb, bo, rfl, hbw, -, hbc⟩ := HK.out.bes.full' (by omega)
    have d1 := ((hbc k hk).2.below HB.out hbw).c1
    have p3 := F1.out.cell 3
    simp at p3
    have i0 : (0 : Int) ≤ (k : Int) := by omega
    have i1 : (k : Int) < (B.bs.length : Int) := by omega
    clear hbc hf
    go_wp2
    go_ret
    exact ⟨ret_bool HE.out.symm, HB.out⟩
end Go.Proofs.YtpdlcccnlciecaaGreat
namespace Go.Proofs.YtpdlcccnlciecaaGreat
open Go.RowKit Go.Deep

set_option maxRecDepth 100000 in
set_option maxHeartbeats 8000000 in
theorem l16Sooner_any (lo : Nat) (sv cv bv : Value) (B : Sb) (x y : Cp) (im : Int) (w : World) (h : SbAt lo w sv cv bv B) :
    Calls Tryz.prog 82 #[.agg #[.int .i64 B.now, sv, cv, bv], .agg #[.string x.se, .int .i64 x.nu, .int .i64 x.ve, .int .i64 x.im, .int .i64 x.st, .bool x.en, .string x.be], .agg #[.string y.se, .int .i64 y.nu, .int .i64 y.ve, .int .i64 y.im, .int .i64 y.st, .bool y.en, .string y.be], .int .i64 im] w fun e w' => e = .returned (.bool (sooB B im x y)) ∧ Below w.heap.size w w' := by
  have HK := hide h
  obtain ⟨a0, k0, rfl⟩ := h.svs.form
  obtain ⟨a1, k1, rfl⟩ := h.cps.form
  obtain ⟨a2, k2, rfl⟩ := h.bes.form
  clear h
  cases h1 : (x.st != 3) with
  | false =>
    cases h2 : (y.st != 3) with
    | false =>
      cases h3 : (x.im != im) with
      | false =>
        cases h4 : (y.im != im) with
        | false =>
          have HS : Hid (sooB B im x y = if drB B x != drB B y then drB B x else decide (y.nu < x.nu)) := by unfold Hid sooB; rw [h1, h2, h3, h4]; rfl
          go_enter Tryz.func82, Tryz.ntmps82
          go_wp2_with fail
          generalize hWa : World.alloc (World.alloc (w.alloc _) _) _ = Wa
          have HB : Hid (Below w.heap.size w Wa) := by unfold Hid; rw [← hWa]; exact ((one_al w _).alloc (by simp) _).alloc (by simp; omega) _
          have F1 : Hid (Box Wa w.heap.size #[.int .i64 B.now, .slice a0 B.ss.length k0, .slice a1 B.cs.length k1, .slice a2 B.bs.length k2]) := by unfold Hid; rw [← hWa]; exact ((Box.new _ _ _ _ rfl).on (one_al _ _)).on (one_al _ _)
          have F2 : Hid (Box Wa (w.heap.size + 1) #[.string x.se, .int .i64 x.nu, .int .i64 x.ve, .int .i64 x.im, .int .i64 x.st, .bool x.en, .string x.be]) := by unfold Hid; rw [← hWa]; exact (Box.new _ _ _ _ (by simp)).on (one_al _ _)
          have F3 : Hid (Box Wa (w.heap.size + 1 + 1) #[.string y.se, .int .i64 y.nu, .int .i64 y.ve, .int .i64 y.im, .int .i64 y.st, .bool y.en, .string y.be]) := by unfold Hid; rw [← hWa]; exact Box.new _ _ _ _ (by simp)
          clear hWa
          go_cut [38] (fun c wc => c = .bool (drB B x != drB B y) ∧ Below Wa.heap.size Wa wc)
          case first =>
            have xn : Nonempty (In (Up Wa)) := ⟨⟨Wa, Below.refl _ _⟩⟩
            have xs := fun (Y : In (Up Wa)) => in_self Y
            have p0 : ∀ Y : In (Up Wa), _ := fun Y => Up.cell Y (F1.out.cell 0)
            have p1 : ∀ Y : In (Up Wa), _ := fun Y => Up.cell Y (F1.out.cell 1)
            have p2 : ∀ Y : In (Up Wa), _ := fun Y => Up.cell Y (F1.out.cell 2)
            have p3 : ∀ Y : In (Up Wa), _ := fun Y => Up.cell Y (F1.out.cell 3)
            have q0 : ∀ Y : In (Up Wa), _ := fun Y => Up.cell Y (F2.out.cell 0)
            have q1 : ∀ Y : In (Up Wa), _ := fun Y => Up.cell Y (F2.out.cell 1)
            have q2 : ∀ Y : In (Up Wa), _ := fun Y => Up.cell Y (F2.out.cell 2)
            have q3 : ∀ Y : In (Up Wa), _ := fun Y => Up.cell Y (F2.out.cell 3)
            have q4 : ∀ Y : In (Up Wa), _ := fun Y => Up.cell Y (F2.out.cell 4)
            have q5 : ∀ Y : In (Up Wa), _ := fun Y => Up.cell Y (F2.out.cell 5)
            have q6 : ∀ Y : In (Up Wa), _ := fun Y => Up.cell Y (F2.out.cell 6)
            have r0 : ∀ Y : In (Up Wa), _ := fun Y => Up.cell Y (F3.out.cell 0)
            have r1 : ∀ Y : In (Up Wa), _ := fun Y => Up.cell Y (F3.out.cell 1)
            have r2 : ∀ Y : In (Up Wa), _ := fun Y => Up.cell Y (F3.out.cell 2)
            have r3 : ∀ Y : In (Up Wa), _ := fun Y => Up.cell Y (F3.out.cell 3)
            have r4 : ∀ Y : In (Up Wa), _ := fun Y => Up.cell Y (F3.out.cell 4)
            have r5 : ∀ Y : In (Up Wa), _ := fun Y => Up.cell Y (F3.out.cell 5)
            have r6 : ∀ Y : In (Up Wa), _ := fun Y => Up.cell Y (F3.out.cell 6)
            simp at p0 p1 p2 p3 q0 q1 q2 q3 q4 q5 q6 r0 r1 r2 r3 r4 r5 r6
            refine wp_region_class (Up Wa) (by kernel_rfl) (by kernel_rfl) ((Below.refl _ _).drew) ?_
            repeat (go_big_quiet_step (first | (go_at_call_of 63 (Value.string x.se); rename_i Y; exact (l16Drains_any lo _ _ _ B x _ (HK.out.below (bt HB.out Y.h))).mono fun _ _ h => ⟨h.1, Up.next Y h.2⟩) | (go_at_call_of 63 (Value.string y.se); rename_i Y; exact (l16Drains_any lo _ _ _ B y _ (HK.out.below (bt HB.out Y.h))).mono fun _ _ h => ⟨h.1, Up.next Y h.2⟩)))
            refine wpQuiet_nil ?_
            intro wn hw
            obtain ⟨Y, hY⟩ := hw
            have HWN : Below Wa.heap.size Wa wn := by rw [hY]; exact Y.h
            clear hY Y p0 p1 p2 p3 q0 q1 q2 q3 q4 q5 q6 r0 r1 r2 r3 r4 r5 r6 xs xn
            go_wp2
            go_meet
            exact ⟨rfl, HWN⟩
          case rest =>
          obtain ⟨rfl, hbc⟩ := hcut
          replace HB := hide (bt HB.out hbc)
          replace F1 := hide (F1.out.on hbc)
          replace F2 := hide (F2.out.on hbc)
          replace F3 := hide (F3.out.on hbc)
          clear hbc
          cases hd : (drB B x != drB B y) with
          | true =>
            have HE : Hid (sooB B im x y = drB B x) := by unfold Hid; rw [HS.out, hd]; rfl
            have p := F1.out.cell
            have q := F2.out.cell
            clear hd
            go_wp2_with fail
            clear p q
            refine (l16Drains_any lo _ _ _ B x _ (HK.out.below HB.out)).mono ?_
            rintro e w3 ⟨rfl, hb3⟩
            go_wp2
            go_ret
            exact ⟨ret_bool HE.out.symm, bt HB.out hb3⟩
          | false =>
            have HE : Hid (sooB B im x y = decide (y.nu < x.nu)) := by unfold Hid; rw [HS.out, hd]; rfl
            have q := F2.out.cell 1
            have r := F3.out.cell 1
            simp at q r
            clear hd
            go_wp2
            go_ret
            exact ⟨ret_bool HE.out.symm, HB.out⟩
        | true =>
          have HE : Hid (sooB B im x y = false) := by unfold Hid sooB; rw [h1, h2, h3, h4]; rfl
          go_enter Tryz.func82, Tryz.ntmps82
          go_wp2
          go_ret
          exact ⟨ret_bool HE.out.symm, ((one_al w _).alloc (by simp) _).alloc (by simp; omega) _⟩
      | true =>
        cases h4 : (y.im != im) with
        | false =>
          have HE : Hid (sooB B im x y = true) := by unfold Hid sooB; rw [h1, h2, h3, h4]; rfl
          go_enter Tryz.func82, Tryz.ntmps82
          go_wp2
          go_ret
          exact ⟨ret_bool HE.out.symm, ((one_al w _).alloc (by simp) _).alloc (by simp; omega) _⟩
        | true =>
          have HS : Hid (sooB B im x y = if drB B x != drB B y then drB B x else decide (y.nu < x.nu)) := by unfold Hid sooB; rw [h1, h2, h3, h4]; rfl
          go_enter Tryz.func82, Tryz.ntmps82
          go_wp2_with fail
          generalize hWa : World.alloc (World.alloc (w.alloc _) _) _ = Wa
          have HB : Hid (Below w.heap.size w Wa) := by unfold Hid; rw [← hWa]; exact ((one_al w _).alloc (by simp) _).alloc (by simp; omega) _
          have F1 : Hid (Box Wa w.heap.size #[.int .i64 B.now, .slice a0 B.ss.length k0, .slice a1 B.cs.length k1, .slice a2 B.bs.length k2]) := by unfold Hid; rw [← hWa]; exact ((Box.new _ _ _ _ rfl).on (one_al _ _)).on (one_al _ _)
          have F2 : Hid (Box Wa (w.heap.size + 1) #[.string x.se, .int .i64 x.nu, .int .i64 x.ve, .int .i64 x.im, .int .i64 x.st, .bool x.en, .string x.be]) := by unfold Hid; rw [← hWa]; exact (Box.new _ _ _ _ (by simp)).on (one_al _ _)
          have F3 : Hid (Box Wa (w.heap.size + 1 + 1) #[.string y.se, .int .i64 y.nu, .int .i64 y.ve, .int .i64 y.im, .int .i64 y.st, .bool y.en, .string y.be]) := by unfold Hid; rw [← hWa]; exact Box.new _ _ _ _ (by simp)
          clear hWa
          go_cut [38] (fun c wc => c = .bool (drB B x != drB B y) ∧ Below Wa.heap.size Wa wc)
          case first =>
            have xn : Nonempty (In (Up Wa)) := ⟨⟨Wa, Below.refl _ _⟩⟩
            have xs := fun (Y : In (Up Wa)) => in_self Y
            have p0 : ∀ Y : In (Up Wa), _ := fun Y => Up.cell Y (F1.out.cell 0)
            have p1 : ∀ Y : In (Up Wa), _ := fun Y => Up.cell Y (F1.out.cell 1)
            have p2 : ∀ Y : In (Up Wa), _ := fun Y => Up.cell Y (F1.out.cell 2)
            have p3 : ∀ Y : In (Up Wa), _ := fun Y => Up.cell Y (F1.out.cell 3)
            have q0 : ∀ Y : In (Up Wa), _ := fun Y => Up.cell Y (F2.out.cell 0)
            have q1 : ∀ Y : In (Up Wa), _ := fun Y => Up.cell Y (F2.out.cell 1)
            have q2 : ∀ Y : In (Up Wa), _ := fun Y => Up.cell Y (F2.out.cell 2)
            have q3 : ∀ Y : In (Up Wa), _ := fun Y => Up.cell Y (F2.out.cell 3)
            have q4 : ∀ Y : In (Up Wa), _ := fun Y => Up.cell Y (F2.out.cell 4)
            have q5 : ∀ Y : In (Up Wa), _ := fun Y => Up.cell Y (F2.out.cell 5)
            have q6 : ∀ Y : In (Up Wa), _ := fun Y => Up.cell Y (F2.out.cell 6)
            have r0 : ∀ Y : In (Up Wa), _ := fun Y => Up.cell Y (F3.out.cell 0)
            have r1 : ∀ Y : In (Up Wa), _ := fun Y => Up.cell Y (F3.out.cell 1)
            have r2 : ∀ Y : In (Up Wa), _ := fun Y => Up.cell Y (F3.out.cell 2)
            have r3 : ∀ Y : In (Up Wa), _ := fun Y => Up.cell Y (F3.out.cell 3)
            have r4 : ∀ Y : In (Up Wa), _ := fun Y => Up.cell Y (F3.out.cell 4)
            have r5 : ∀ Y : In (Up Wa), _ := fun Y => Up.cell Y (F3.out.cell 5)
            have r6 : ∀ Y : In (Up Wa), _ := fun Y => Up.cell Y (F3.out.cell 6)
            simp at p0 p1 p2 p3 q0 q1 q2 q3 q4 q5 q6 r0 r1 r2 r3 r4 r5 r6
            refine wp_region_class (Up Wa) (by kernel_rfl) (by kernel_rfl) ((Below.refl _ _).drew) ?_
            repeat (go_big_quiet_step (first | (go_at_call_of 63 (Value.string x.se); rename_i Y; exact (l16Drains_any lo _ _ _ B x _ (HK.out.below (bt HB.out Y.h))).mono fun _ _ h => ⟨h.1, Up.next Y h.2⟩) | (go_at_call_of 63 (Value.string y.se); rename_i Y; exact (l16Drains_any lo _ _ _ B y _ (HK.out.below (bt HB.out Y.h))).mono fun _ _ h => ⟨h.1, Up.next Y h.2⟩)))
            refine wpQuiet_nil ?_
            intro wn hw
            obtain ⟨Y, hY⟩ := hw
            have HWN : Below Wa.heap.size Wa wn := by rw [hY]; exact Y.h
            clear hY Y p0 p1 p2 p3 q0 q1 q2 q3 q4 q5 q6 r0 r1 r2 r3 r4 r5 r6 xs xn
            go_wp2
            go_meet
            exact ⟨rfl, HWN⟩
          case rest =>
          obtain ⟨rfl, hbc⟩ := hcut
          replace HB := hide (bt HB.out hbc)
          replace F1 := hide (F1.out.on hbc)
          replace F2 := hide (F2.out.on hbc)
          replace F3 := hide (F3.out.on hbc)
          clear hbc
          cases hd : (drB B x != drB B y) with
          | true =>
            have HE : Hid (sooB B im x y = drB B x) := by unfold Hid; rw [HS.out, hd]; rfl
            have p := F1.out.cell
            have q := F2.out.cell
            clear hd
            go_wp2_with fail
            clear p q
            refine (l16Drains_any lo _ _ _ B x _ (HK.out.below HB.out)).mono ?_
            rintro e w3 ⟨rfl, hb3⟩
            go_wp2
            go_ret
            exact ⟨ret_bool HE.out.symm, bt HB.out hb3⟩
          | false =>
            have HE : Hid (sooB B im x y = decide (y.nu < x.nu)) := by unfold Hid; rw [HS.out, hd]; rfl
            have q := F2.out.cell 1
            have r := F3.out.cell 1
            simp at q r
            clear hd
            go_wp2
            go_ret
            exact ⟨ret_bool HE.out.symm, HB.out⟩
    | true =>
      have HE : Hid (sooB B im x y = false) := by unfold Hid sooB; rw [h1, h2]; rfl
      go_enter Tryz.func82, Tryz.ntmps82
      go_wp2
      go_ret
      exact ⟨ret_bool HE.out.symm, ((one_al w _).alloc (by simp) _).alloc (by simp; omega) _⟩
  | true =>
    cases h2 : (y.st != 3) with
    | false =>
      have HE : Hid (sooB B im x y = true) := by unfold Hid sooB; rw [h1, h2]; rfl
      go_enter Tryz.func82, Tryz.ntmps82
      go_wp2
      go_ret
      exact ⟨ret_bool HE.out.symm, ((one_al w _).alloc (by simp) _).alloc (by simp; omega) _⟩
    | true =>
      cases h3 : (x.im != im) with
      | false =>
        cases h4 : (y.im != im) with
        | false =>
          have HS : Hid (sooB B im x y = if drB B x != drB B y then drB B x else decide (y.nu < x.nu)) := by unfold Hid sooB; rw [h1, h2, h3, h4]; rfl
          go_enter Tryz.func82, Tryz.ntmps82
          go_wp2_with fail
          generalize hWa : World.alloc (World.alloc (w.alloc _) _) _ = Wa
          have HB : Hid (Below w.heap.size w Wa) := by unfold Hid; rw [← hWa]; exact ((one_al w _).alloc (by simp) _).alloc (by simp; omega) _
          have F1 : Hid (Box Wa w.heap.size #[.int .i64 B.now, .slice a0 B.ss.length k0, .slice a1 B.cs.length k1, .slice a2 B.bs.length k2]) := by unfold Hid; rw [← hWa]; exact ((Box.new _ _ _ _ rfl).on (one_al _ _)).on (one_al _ _)
          have F2 : Hid (Box Wa (w.heap.size + 1) #[.string x.se, .int .i64 x.nu, .int .i64 x.ve, .int .i64 x.im, .int .i64 x.st, .bool x.en, .string x.be]) := by unfold Hid; rw [← hWa]; exact (Box.new _ _ _ _ (by simp)).on (one_al _ _)
          have F3 : Hid (Box Wa (w.heap.size + 1 + 1) #[.string y.se, .int .i64 y.nu, .int .i64 y.ve, .int .i64 y.im, .int .i64 y.st, .bool y.en, .string y.be]) := by unfold Hid; rw [← hWa]; exact Box.new _ _ _ _ (by simp)
          clear hWa
          go_cut [38] (fun c wc => c = .bool (drB B x != drB B y) ∧ Below Wa.heap.size Wa wc)
          case first =>
            have xn : Nonempty (In (Up Wa)) := ⟨⟨Wa, Below.refl _ _⟩⟩
            have xs := fun (Y : In (Up Wa)) => in_self Y
            have p0 : ∀ Y : In (Up Wa), _ := fun Y => Up.cell Y (F1.out.cell 0)
            have p1 : ∀ Y : In (Up Wa), _ := fun Y => Up.cell Y (F1.out.cell 1)
            have p2 : ∀ Y : In (Up Wa), _ := fun Y => Up.cell Y (F1.out.cell 2)
            have p3 : ∀ Y : In (Up Wa), _ := fun Y => Up.cell Y (F1.out.cell 3)
            have q0 : ∀ Y : In (Up Wa), _ := fun Y => Up.cell Y (F2.out.cell 0)
            have q1 : ∀ Y : In (Up Wa), _ := fun Y => Up.cell Y (F2.out.cell 1)
            have q2 : ∀ Y : In (Up Wa), _ := fun Y => Up.cell Y (F2.out.cell 2)
            have q3 : ∀ Y : In (Up Wa), _ := fun Y => Up.cell Y (F2.out.cell 3)
            have q4 : ∀ Y : In (Up Wa), _ := fun Y => Up.cell Y (F2.out.cell 4)
            have q5 : ∀ Y : In (Up Wa), _ := fun Y => Up.cell Y (F2.out.cell 5)
            have q6 : ∀ Y : In (Up Wa), _ := fun Y => Up.cell Y (F2.out.cell 6)
            have r0 : ∀ Y : In (Up Wa), _ := fun Y => Up.cell Y (F3.out.cell 0)
            have r1 : ∀ Y : In (Up Wa), _ := fun Y => Up.cell Y (F3.out.cell 1)
            have r2 : ∀ Y : In (Up Wa), _ := fun Y => Up.cell Y (F3.out.cell 2)
            have r3 : ∀ Y : In (Up Wa), _ := fun Y => Up.cell Y (F3.out.cell 3)
            have r4 : ∀ Y : In (Up Wa), _ := fun Y => Up.cell Y (F3.out.cell 4)
            have r5 : ∀ Y : In (Up Wa), _ := fun Y => Up.cell Y (F3.out.cell 5)
            have r6 : ∀ Y : In (Up Wa), _ := fun Y => Up.cell Y (F3.out.cell 6)
            simp at p0 p1 p2 p3 q0 q1 q2 q3 q4 q5 q6 r0 r1 r2 r3 r4 r5 r6
            refine wp_region_class (Up Wa) (by kernel_rfl) (by kernel_rfl) ((Below.refl _ _).drew) ?_
            repeat (go_big_quiet_step (first | (go_at_call_of 63 (Value.string x.se); rename_i Y; exact (l16Drains_any lo _ _ _ B x _ (HK.out.below (bt HB.out Y.h))).mono fun _ _ h => ⟨h.1, Up.next Y h.2⟩) | (go_at_call_of 63 (Value.string y.se); rename_i Y; exact (l16Drains_any lo _ _ _ B y _ (HK.out.below (bt HB.out Y.h))).mono fun _ _ h => ⟨h.1, Up.next Y h.2⟩)))
            refine wpQuiet_nil ?_
            intro wn hw
            obtain ⟨Y, hY⟩ := hw
            have HWN : Below Wa.heap.size Wa wn := by rw [hY]; exact Y.h
            clear hY Y p0 p1 p2 p3 q0 q1 q2 q3 q4 q5 q6 r0 r1 r2 r3 r4 r5 r6 xs xn
            go_wp2
            go_meet
            exact ⟨rfl, HWN⟩
          case rest =>
          obtain ⟨rfl, hbc⟩ := hcut
          replace HB := hide (bt HB.out hbc)
          replace F1 := hide (F1.out.on hbc)
          replace F2 := hide (F2.out.on hbc)
          replace F3 := hide (F3.out.on hbc)
          clear hbc
          cases hd : (drB B x != drB B y) with
          | true =>
            have HE : Hid (sooB B im x y = drB B x) := by unfold Hid; rw [HS.out, hd]; rfl
            have p := F1.out.cell
            have q := F2.out.cell
            clear hd
            go_wp2_with fail
            clear p q
            refine (l16Drains_any lo _ _ _ B x _ (HK.out.below HB.out)).mono ?_
            rintro e w3 ⟨rfl, hb3⟩
            go_wp2
            go_ret
            exact ⟨ret_bool HE.out.symm, bt HB.out hb3⟩
          | false =>
            have HE : Hid (sooB B im x y = decide (y.nu < x.nu)) := by unfold Hid; rw [HS.out, hd]; rfl
            have q := F2.out.cell 1
            have r := F3.out.cell 1
            simp at q r
            clear hd
            go_wp2
            go_ret
            exact ⟨ret_bool HE.out.symm, HB.out⟩
        | true =>
          have HE : Hid (sooB B im x y = false) := by unfold Hid sooB; rw [h1, h2, h3, h4]; rfl
          go_enter Tryz.func82, Tryz.ntmps82
          go_wp2
          go_ret
          exact ⟨ret_bool HE.out.symm, ((one_al w _).alloc (by simp) _).alloc (by simp; omega) _⟩
      | true =>
        cases h4 : (y.im != im) with
        | false =>
          have HE : Hid (sooB B im x y = true) := by unfold Hid sooB; rw [h1, h2, h3, h4]; rfl
          go_enter Tryz.func82, Tryz.ntmps82
          go_wp2
          go_ret
          exact ⟨ret_bool HE.out.symm, ((one_al w _).alloc (by simp) _).alloc (by simp; omega) _⟩
        | true =>
          have HS : Hid (sooB B im x y = if drB B x != drB B y then drB B x else decide (y.nu < x.nu)) := by unfold Hid sooB; rw [h1, h2, h3, h4]; rfl
          go_enter Tryz.func82, Tryz.ntmps82
          go_wp2_with fail
          generalize hWa : World.alloc (World.alloc (w.alloc _) _) _ = Wa
          have HB : Hid (Below w.heap.size w Wa) := by unfold Hid; rw [← hWa]; exact ((one_al w _).alloc (by simp) _).alloc (by simp; omega) _
          have F1 : Hid (Box Wa w.heap.size #[.int .i64 B.now, .slice a0 B.ss.length k0, .slice a1 B.cs.length k1, .slice a2 B.bs.length k2]) := by unfold Hid; rw [← hWa]; exact ((Box.new _ _ _ _ rfl).on (one_al _ _)).on (one_al _ _)
          have F2 : Hid (Box Wa (w.heap.size + 1) #[.string x.se, .int .i64 x.nu, .int .i64 x.ve, .int .i64 x.im, .int .i64 x.st, .bool x.en, .string x.be]) := by unfold Hid; rw [← hWa]; exact (Box.new _ _ _ _ (by simp)).on (one_al _ _)
          have F3 : Hid (Box Wa (w.heap.size + 1 + 1) #[.string y.se, .int .i64 y.nu, .int .i64 y.ve, .int .i64 y.im, .int .i64 y.st, .bool y.en, .string y.be]) := by unfold Hid; rw [← hWa]; exact Box.new _ _ _ _ (by simp)
          clear hWa
          go_cut [38] (fun c wc => c = .bool (drB B x != drB B y) ∧ Below Wa.heap.size Wa wc)
          case first =>
            have xn : Nonempty (In (Up Wa)) := ⟨⟨Wa, Below.refl _ _⟩⟩
            have xs := fun (Y : In (Up Wa)) => in_self Y
            have p0 : ∀ Y : In (Up Wa), _ := fun Y => Up.cell Y (F1.out.cell 0)
            have p1 : ∀ Y : In (Up Wa), _ := fun Y => Up.cell Y (F1.out.cell 1)
            have p2 : ∀ Y : In (Up Wa), _ := fun Y => Up.cell Y (F1.out.cell 2)
            have p3 : ∀ Y : In (Up Wa), _ := fun Y => Up.cell Y (F1.out.cell 3)
            have q0 : ∀ Y : In (Up Wa), _ := fun Y => Up.cell Y (F2.out.cell 0)
            have q1 : ∀ Y : In (Up Wa), _ := fun Y => Up.cell Y (F2.out.cell 1)
            have q2 : ∀ Y : In (Up Wa), _ := fun Y => Up.cell Y (F2.out.cell 2)
            have q3 : ∀ Y : In (Up Wa), _ := fun Y => Up.cell Y (F2.out.cell 3)
            have q4 : ∀ Y : In (Up Wa), _ := fun Y => Up.cell Y (F2.out.cell 4)
            have q5 : ∀ Y : In (Up Wa), _ := fun Y => Up.cell Y (F2.out.cell 5)
            have q6 : ∀ Y : In (Up Wa), _ := fun Y => Up.cell Y (F2.out.cell 6)
            have r0 : ∀ Y : In (Up Wa), _ := fun Y => Up.cell Y (F3.out.cell 0)
            have r1 : ∀ Y : In (Up Wa), _ := fun Y => Up.cell Y (F3.out.cell 1)
            have r2 : ∀ Y : In (Up Wa), _ := fun Y => Up.cell Y (F3.out.cell 2)
            have r3 : ∀ Y : In (Up Wa), _ := fun Y => Up.cell Y (F3.out.cell 3)
            have r4 : ∀ Y : In (Up Wa), _ := fun Y => Up.cell Y (F3.out.cell 4)
            have r5 : ∀ Y : In (Up Wa), _ := fun Y => Up.cell Y (F3.out.cell 5)
            have r6 : ∀ Y : In (Up Wa), _ := fun Y => Up.cell Y (F3.out.cell 6)
            simp at p0 p1 p2 p3 q0 q1 q2 q3 q4 q5 q6 r0 r1 r2 r3 r4 r5 r6
            refine wp_region_class (Up Wa) (by kernel_rfl) (by kernel_rfl) ((Below.refl _ _).drew) ?_
            repeat (go_big_quiet_step (first | (go_at_call_of 63 (Value.string x.se); rename_i Y; exact (l16Drains_any lo _ _ _ B x _ (HK.out.below (bt HB.out Y.h))).mono fun _ _ h => ⟨h.1, Up.next Y h.2⟩) | (go_at_call_of 63 (Value.string y.se); rename_i Y; exact (l16Drains_any lo _ _ _ B y _ (HK.out.below (bt HB.out Y.h))).mono fun _ _ h => ⟨h.1, Up.next Y h.2⟩)))
            refine wpQuiet_nil ?_
            intro wn hw
            obtain ⟨Y, hY⟩ := hw
            have HWN : Below Wa.heap.size Wa wn := by rw [hY]; exact Y.h
            clear hY Y p0 p1 p2 p3 q0 q1 q2 q3 q4 q5 q6 r0 r1 r2 r3 r4 r5 r6 xs xn
            go_wp2
            go_meet
            exact ⟨rfl, HWN⟩
          case rest =>
          obtain ⟨rfl, hbc⟩ := hcut
          replace HB := hide (bt HB.out hbc)
          replace F1 := hide (F1.out.on hbc)
          replace F2 := hide (F2.out.on hbc)
          replace F3 := hide (F3.out.on hbc)
          clear hbc
          cases hd : (drB B x != drB B y) with
          | true =>
            have HE : Hid (sooB B im x y = drB B x) := by unfold Hid; rw [HS.out, hd]; rfl
            have p := F1.out.cell
            have q := F2.out.cell
            clear hd
            go_wp2_with fail
            clear p q
            refine (l16Drains_any lo _ _ _ B x _ (HK.out.below HB.out)).mono ?_
            rintro e w3 ⟨rfl, hb3⟩
            go_wp2
            go_ret
            exact ⟨ret_bool HE.out.symm, bt HB.out hb3⟩
          | false =>
            have HE : Hid (sooB B im x y = decide (y.nu < x.nu)) := by unfold Hid; rw [HS.out, hd]; rfl
            have q := F2.out.cell 1
            have r := F3.out.cell 1
            simp at q r
            clear hd
            go_wp2
            go_ret
            exact ⟨ret_bool HE.out.symm, HB.out⟩
end Go.Proofs.YtpdlcccnlciecaaGreat
namespace Go.Proofs.YtpdlcccnlciecaaGreat
open Go.RowKit Go.Deep

set_option maxRecDepth 100000 in
set_option maxHeartbeats 8000000 in
theorem l16Desired_any (x : Sv) (w : World) (hp : 1 ≤ x.pr) (hp2 : x.pr ≤ 1000000) (hl0 : 0 ≤ x.ld) (hl : x.ld ≤ 1000000) :
    Calls Tryz.prog 67 #[.agg #[.string x.nm, .int .i64 x.ve, .bool x.gn, .int .i64 x.im, .int .i64 x.wa, .int .i64 x.dn, .int .i64 x.ov, .int .i64 x.nx, .int .i64 x.pr, .int .i64 x.ls, .int .i64 x.ms, .int .i64 x.ld, .int .i64 x.cl]] w fun e w' => e = .returned (.int .i64 (desF x)) ∧ ∃ o, w' = w.alloc o := by
  have hne : x.pr ≠ 0 := by omega
  go_enter Tryz.func67, Tryz.ntmps67
  go_wp2
  all_goals
    go_ret
    refine ⟨congrArg (fun q => Ending.returned (.int .i64 q)) ?_, _, rfl⟩
    unfold desF
    dsimp only
    (repeat' split) <;> omega
/-- an act with no ends, as a value -/
def ac0V (A : Ac) : Value := .agg #[.string A.sv, .int .i64 A.sn, .int .i64 A.cr, .int .i64 A.wa, .int .i64 A.cl, .bool A.sc, .slice none 0 0, .bool A.dp]

set_option maxRecDepth 100000 in
set_option maxHeartbeats 8000000 in
theorem l16Scaler_any (x : Sv) (w : World) (hp : 1 ≤ x.pr) (hp2 : x.pr ≤ 1000000) (hl0 : 0 ≤ x.ld) (hl : x.ld ≤ 1000000) (hw0 : 0 ≤ x.wa) (hw : x.wa ≤ 10) (hc0 : 0 ≤ x.cl) (hc : x.cl ≤ 3) :
    Calls Tryz.prog 48 #[.agg #[.string x.nm, .int .i64 x.ve, .bool x.gn, .int .i64 x.im, .int .i64 x.wa, .int .i64 x.dn, .int .i64 x.ov, .int .i64 x.nx, .int .i64 x.pr, .int .i64 x.ls, .int .i64 x.ms, .int .i64 x.ld, .int .i64 x.cl], ac0V (ac0 x)] w fun e w' => e = .returned (ac0V (sclF x)) ∧ Below w.heap.size w w' := by
  have HC := fun w => hide (l16Desired_any x w hp hp2 hl0 hl)
  generalize hD : desF x = D at HC
  unfold ac0V ac0
  go_enter Tryz.func48, Tryz.ntmps48
  go_wp2_with fail
  refine (HC _).out.mono ?_
  rintro e w3 ⟨rfl, o, rfl⟩
  clear HC
  go_wp2
  · refine bodyPost_ret (v := .agg #[.string x.nm, .int .i64 x.ve, .int .i64 0, .int .i64 x.ls, .int .i64 0, .bool true, .slice none 0 0, .bool false]) (by simp [results, Tryz.results48, go_sem]) rfl ⟨?_, (((one_al w _).alloc (by simp) _).alloc (by simp; omega) _).alloc (by simp; omega) _⟩
    subst hD
    unfold sclF
    (repeat' split) <;> first | rfl | omega
  · refine bodyPost_ret (v := .agg #[.string x.nm, .int .i64 x.ve, .int .i64 0, .int .i64 x.ms, .int .i64 0, .bool true, .slice none 0 0, .bool false]) (by simp [results, Tryz.results48, go_sem]) rfl ⟨?_, (((one_al w _).alloc (by simp) _).alloc (by simp; omega) _).alloc (by simp; omega) _⟩
    subst hD
    unfold sclF
    (repeat' split) <;> first | rfl | omega
  · refine bodyPost_ret (v := .agg #[.string x.nm, .int .i64 x.ve, .int .i64 0, .int .i64 D, .int .i64 0, .bool true, .slice none 0 0, .bool false]) (by simp [results, Tryz.results48, go_sem]) rfl ⟨?_, (((one_al w _).alloc (by simp) _).alloc (by simp; omega) _).alloc (by simp; omega) _⟩
    subst hD
    unfold sclF
    (repeat' split) <;> first | rfl | omega
  · refine bodyPost_ret (v := .agg #[.string x.nm, .int .i64 x.ve, .int .i64 0, .int .i64 (x.wa - 1), .int .i64 0, .bool true, .slice none 0 0, .bool false]) (by simp [results, Tryz.results48, go_sem]) rfl ⟨?_, (((one_al w _).alloc (by simp) _).alloc (by simp; omega) _).alloc (by simp; omega) _⟩
    subst hD
    unfold sclF
    (repeat' split) <;> first | rfl | omega
  · refine bodyPost_ret (v := .agg #[.string x.nm, .int .i64 x.ve, .int .i64 0, .int .i64 x.wa, .int .i64 (x.cl + 1), .bool true, .slice none 0 0, .bool false]) (by simp [results, Tryz.results48, go_sem]) rfl ⟨?_, (((one_al w _).alloc (by simp) _).alloc (by simp; omega) _).alloc (by simp; omega) _⟩
    subst hD
    unfold sclF
    (repeat' split) <;> first | rfl | omega
  · refine bodyPost_ret (v := .agg #[.string x.nm, .int .i64 x.ve, .int .i64 0, .int .i64 0, .int .i64 0, .bool false, .slice none 0 0, .bool false]) (by simp [results, Tryz.results48, go_sem]) rfl ⟨?_, (((one_al w _).alloc (by simp) _).alloc (by simp; omega) _).alloc (by simp; omega) _⟩
    have hy : (x.cl == 0) = true := by assumption
    have hz : x.cl = 0 := by simpa using hy
    subst hD
    unfold sclF
    (repeat' split) <;> first | rfl | omega
  · refine bodyPost_ret (v := .agg #[.string x.nm, .int .i64 x.ve, .int .i64 0, .int .i64 x.wa, .int .i64 0, .bool true, .slice none 0 0, .bool false]) (by simp [results, Tryz.results48, go_sem]) rfl ⟨?_, (((one_al w _).alloc (by simp) _).alloc (by simp; omega) _).alloc (by simp; omega) _⟩
    have hy : (x.cl == 0) = false := by assumption
    have hz : x.cl ≠ 0 := by simpa using hy
    subst hD
    unfold sclF
    (repeat' split) <;> first | rfl | omega
end Go.Proofs.YtpdlcccnlciecaaGreat
