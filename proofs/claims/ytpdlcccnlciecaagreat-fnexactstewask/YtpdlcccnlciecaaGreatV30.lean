import Derived.Test.YtpdlcccnlciecaaGreatV21
namespace Go.Proofs.YtpdlcccnlciecaaGreat
open Go.RowKit Go.Deep Go.Maps

set_option maxRecDepth 100000 in
set_option maxHeartbeats 8000000 in
theorem eachSv_any (lo m cb : Nat) (sv cv bv v : Value) (B : Sb) (Xl : List Sv) (w : World) (h : SbAt lo w sv cv bv B) (hv : SvsAt lo w v Xl) (hck : Box w cb #[.func (.func 115) #[] #[], .func (.func 116) #[] #[], .func (.func 117) #[] #[], .func (.func 118) #[] #[], .func (.func 119) #[] #[]]) :
    Calls Tryz.prog 86 #[.agg #[.int .i64 B.now, sv, cv, bv, .map (some m)], v, .slice (some ⟨cb, 0, none⟩) 5 5] w fun e w' => e = .returned (.bool (Xl.all (svB B.now))) ∧ Below w.heap.size w w' := by
  have HK := hide h
  have HV := hide hv
  have HCK := hide hck
  obtain ⟨a0, k0, rfl⟩ := h.svs.form
  obtain ⟨a1, k1, rfl⟩ := h.cps.form
  obtain ⟨a2, k2, rfl⟩ := h.bes.form
  obtain ⟨a, cap, rfl⟩ := hv.form
  have hmx := hv.max
  unfold maxLen at hmx
  clear h hv hck
  go_enter Tryz.func86, Tryz.ntmps86
  go_wp2
  generalize hWa : w.alloc _ = Wa
  have HB0 : Hid (Below w.heap.size w Wa) := by rw [← hWa]; exact one_al w _
  have HX0 : Hid (Box Wa w.heap.size #[.int .i64 B.now, .slice a0 B.ss.length k0, .slice a1 B.cs.length k1, .slice a2 B.bs.length k2, .map (some m)]) := by rw [← hWa]; exact Box.new _ _ _ _ rfl
  have HK0 : Hid (Box Wa cb #[.func (.func 115) #[] #[], .func (.func 116) #[] #[], .func (.func 117) #[] #[], .func (.func 118) #[] #[], .func (.func 119) #[] #[]]) := by rw [← hWa]; exact HCK.out.on (one_al _ _)
  clear hWa HCK
  go_loopw [13] (fun i wr => ∃ k : Nat, i = .int .i64 k ∧ k ≤ Xl.length ∧ Below w.heap.size w wr ∧ Box wr w.heap.size #[.int .i64 B.now, .slice a0 B.ss.length k0, .slice a1 B.cs.length k1, .slice a2 B.bs.length k2, .map (some m)] ∧ Box wr cb #[.func (.func 115) #[] #[], .func (.func 116) #[] #[], .func (.func 117) #[] #[], .func (.func 118) #[] #[], .func (.func 119) #[] #[]] ∧ (∀ j (h : j < Xl.length), j < k → (svB B.now) Xl[j] = true)) (fun i _ => Xl.length - (intOf i).toNat)
  case atStart => exact ⟨0, rfl, Nat.zero_le _, HB0.out, HX0.out, HK0.out, fun j _ h => by omega⟩
  case round =>
    obtain ⟨k, rfl, hk, hb, hx, hc, hall⟩ := hrel
    have HB := hide hb
    have HX := hide hx
    have HC := hide hc
    have HA := hide hall
    clear hb hx hc hall HB0 HX0 HK0
    by_cases hlt : k < Xl.length
    · obtain ⟨b, off, rfl, hbw, -, hc⟩ := HV.out.full' (by omega)
      obtain ⟨hs, hc⟩ := hc k hlt
      have HZ := hide hs
      obtain ⟨c0, c1, c2, c3, c4, c5, c6, c7, c8, c9, c10, c11, c12⟩ := hc.below HB.out hbw
      clear hc hs
      obtain ⟨W1, hW1⟩ : ∃ W, W = wr := ⟨_, rfl⟩
      subst hW1
      go_wp2
      generalize hW : World.alloc _ _ = W
      have HBW : Hid (Below w.heap.size w W) := by rw [← hW]; exact bt HB.out (one_al _ _)
      have HXW : Hid (Box W w.heap.size #[.int .i64 B.now, .slice a0 B.ss.length k0, .slice a1 B.cs.length k1, .slice a2 B.bs.length k2, .map (some m)]) := by rw [← hW]; exact HX.out.on (one_al _ _)
      have HCW : Hid (Box W cb #[.func (.func 115) #[] #[], .func (.func 116) #[] #[], .func (.func 117) #[] #[], .func (.func 118) #[] #[], .func (.func 119) #[] #[]]) := by rw [← hW]; exact HC.out.on (one_al _ _)
      have HTW : Hid (Box W W1.heap.size #[.string Xl[k].nm, .int .i64 Xl[k].ve, .bool Xl[k].gn, .int .i64 Xl[k].im, .int .i64 Xl[k].wa, .int .i64 Xl[k].dn, .int .i64 Xl[k].ov, .int .i64 Xl[k].nx, .int .i64 Xl[k].pr, .int .i64 Xl[k].ls, .int .i64 Xl[k].ms, .int .i64 Xl[k].ld, .int .i64 Xl[k].cl]) := by rw [← hW]; exact Box.new _ _ _ _ rfl
      clear hW HB HX HC c0 c1 c2 c3 c4 c5 c6 c7 c8 c9 c10 c11 c12
      go_loopw [19] (fun i wr => ∃ j : Nat, i = .int .i64 j ∧ j ≤ 5 ∧ Below w.heap.size w wr ∧ Box wr w.heap.size #[.int .i64 B.now, .slice a0 B.ss.length k0, .slice a1 B.cs.length k1, .slice a2 B.bs.length k2, .map (some m)] ∧ Box wr W1.heap.size #[.string Xl[k].nm, .int .i64 Xl[k].ve, .bool Xl[k].gn, .int .i64 Xl[k].im, .int .i64 Xl[k].wa, .int .i64 Xl[k].dn, .int .i64 Xl[k].ov, .int .i64 Xl[k].nx, .int .i64 Xl[k].pr, .int .i64 Xl[k].ls, .int .i64 Xl[k].ms, .int .i64 Xl[k].ld, .int .i64 Xl[k].cl] ∧ Box wr cb #[.func (.func 115) #[] #[], .func (.func 116) #[] #[], .func (.func 117) #[] #[], .func (.func 118) #[] #[], .func (.func 119) #[] #[]] ∧ (∀ l, l < j → ckSv B.now Xl[k] l = true)) (fun i _ => 5 - (intOf i).toNat)
      case atStart => exact ⟨0, rfl, by omega, HBW.out, HXW.out, HTW.out, HCW.out, fun l h => by omega⟩
      case round =>
        obtain ⟨j, rfl, hj, hb, hx, ht, hc, hall⟩ := hrel
        have HBj := hide hb
        have HXj := hide hx
        have HTj := hide ht
        have HKj := hide hc
        have HAj := hide hall
        clear hb hx ht hc hall HBW HXW HCW HTW
        by_cases hjl : j < 5
        · have x := HXj.out.cell
          have t := HTj.out.cell
          have hj' : j = 0 ∨ j = 1 ∨ j = 2 ∨ j = 3 ∨ j = 4 := by omega
          rcases hj' with rfl | rfl | rfl | rfl | rfl
          · have kc := HKj.out.cell 0
            simp at kc
            cases hq : ckSv B.now Xl[k] 0 with
            | false =>
              have HF : Hid (Xl.all (svB B.now) = false) := all_no hlt (and5n (ckSv_all B.now Xl[k]) (by omega) hq)
              go_wp2_with (go_at_call 115; refine (svNamed_any lo m _ _ _ B Xl[k] _ (HK.out.below HBj.out) HZ.out).mono ?_; rintro e w3 ⟨he, hb3⟩; replace he := he.trans (congrArg (fun b => Ending.returned (.bool b)) hq); subst he; have HB3 := hide (bt HBj.out hb3); clear hb3)
              go_ret
              exact ⟨ret_bool HF.out.symm, HB3.out⟩
            | true =>
              have HQ := hide hq
              go_wp2_with (go_at_call 115; refine (svNamed_any lo m _ _ _ B Xl[k] _ (HK.out.below HBj.out) HZ.out).mono ?_; rintro e w3 ⟨he, hb3⟩; replace he := he.trans (congrArg (fun b => Ending.returned (.bool b)) HQ.out); subst he; have HB3 := hide (bt HBj.out hb3); have HX3 := hide (HXj.out.on hb3); have HT3 := hide (HTj.out.on hb3); have HK3 := hide (HKj.out.on hb3); clear hb3)
              go_roundw
              case rel => exact ⟨1, by go_num, by omega, HB3.out, HX3.out, HT3.out, HK3.out, fun l hl => by
                            by_cases e : l = 0
                            · rw [e]; exact HQ.out
                            · exact HAj.out l (by omega)⟩
              case measure => simp [intOf]
          · have kc := HKj.out.cell 1
            simp at kc
            cases hq : ckSv B.now Xl[k] 1 with
            | false =>
              have HF : Hid (Xl.all (svB B.now) = false) := all_no hlt (and5n (ckSv_all B.now Xl[k]) (by omega) hq)
              go_wp2_with (go_at_call 116; refine (svNumbered_any lo m _ _ _ B Xl[k] _ (HK.out.below HBj.out)).mono ?_; rintro e w3 ⟨he, hb3⟩; replace he := he.trans (congrArg (fun b => Ending.returned (.bool b)) hq); subst he; have HB3 := hide (bt HBj.out hb3); clear hb3)
              go_ret
              exact ⟨ret_bool HF.out.symm, HB3.out⟩
            | true =>
              have HQ := hide hq
              go_wp2_with (go_at_call 116; refine (svNumbered_any lo m _ _ _ B Xl[k] _ (HK.out.below HBj.out)).mono ?_; rintro e w3 ⟨he, hb3⟩; replace he := he.trans (congrArg (fun b => Ending.returned (.bool b)) HQ.out); subst he; have HB3 := hide (bt HBj.out hb3); have HX3 := hide (HXj.out.on hb3); have HT3 := hide (HTj.out.on hb3); have HK3 := hide (HKj.out.on hb3); clear hb3)
              go_roundw
              case rel => exact ⟨2, by go_num, by omega, HB3.out, HX3.out, HT3.out, HK3.out, fun l hl => by
                            by_cases e : l = 1
                            · rw [e]; exact HQ.out
                            · exact HAj.out l (by omega)⟩
              case measure => simp [intOf]
          · have kc := HKj.out.cell 2
            simp at kc
            cases hq : ckSv B.now Xl[k] 2 with
            | false =>
              have HF : Hid (Xl.all (svB B.now) = false) := all_no hlt (and5n (ckSv_all B.now Xl[k]) (by omega) hq)
              go_wp2_with (go_at_call 117; refine (svWanted_any lo m _ _ _ B Xl[k] _ (HK.out.below HBj.out)).mono ?_; rintro e w3 ⟨he, hb3⟩; replace he := he.trans (congrArg (fun b => Ending.returned (.bool b)) hq); subst he; have HB3 := hide (bt HBj.out hb3); clear hb3)
              go_ret
              exact ⟨ret_bool HF.out.symm, HB3.out⟩
            | true =>
              have HQ := hide hq
              go_wp2_with (go_at_call 117; refine (svWanted_any lo m _ _ _ B Xl[k] _ (HK.out.below HBj.out)).mono ?_; rintro e w3 ⟨he, hb3⟩; replace he := he.trans (congrArg (fun b => Ending.returned (.bool b)) HQ.out); subst he; have HB3 := hide (bt HBj.out hb3); have HX3 := hide (HXj.out.on hb3); have HT3 := hide (HTj.out.on hb3); have HK3 := hide (HKj.out.on hb3); clear hb3)
              go_roundw
              case rel => exact ⟨3, by go_num, by omega, HB3.out, HX3.out, HT3.out, HK3.out, fun l hl => by
                            by_cases e : l = 2
                            · rw [e]; exact HQ.out
                            · exact HAj.out l (by omega)⟩
              case measure => simp [intOf]
          · have kc := HKj.out.cell 3
            simp at kc
            cases hq : ckSv B.now Xl[k] 3 with
            | false =>
              have HF : Hid (Xl.all (svB B.now) = false) := all_no hlt (and5n (ckSv_all B.now Xl[k]) (by omega) hq)
              go_wp2_with (go_at_call 118; refine (svScaled_any lo m _ _ _ B Xl[k] _ (HK.out.below HBj.out)).mono ?_; rintro e w3 ⟨he, hb3⟩; replace he := he.trans (congrArg (fun b => Ending.returned (.bool b)) hq); subst he; have HB3 := hide (bt HBj.out hb3); clear hb3)
              go_ret
              exact ⟨ret_bool HF.out.symm, HB3.out⟩
            | true =>
              have HQ := hide hq
              go_wp2_with (go_at_call 118; refine (svScaled_any lo m _ _ _ B Xl[k] _ (HK.out.below HBj.out)).mono ?_; rintro e w3 ⟨he, hb3⟩; replace he := he.trans (congrArg (fun b => Ending.returned (.bool b)) HQ.out); subst he; have HB3 := hide (bt HBj.out hb3); have HX3 := hide (HXj.out.on hb3); have HT3 := hide (HTj.out.on hb3); have HK3 := hide (HKj.out.on hb3); clear hb3)
              go_roundw
              case rel => exact ⟨4, by go_num, by omega, HB3.out, HX3.out, HT3.out, HK3.out, fun l hl => by
                            by_cases e : l = 3
                            · rw [e]; exact HQ.out
                            · exact HAj.out l (by omega)⟩
              case measure => simp [intOf]
          · have kc := HKj.out.cell 4
            simp at kc
            cases hq : ckSv B.now Xl[k] 4 with
            | false =>
              have HF : Hid (Xl.all (svB B.now) = false) := all_no hlt (and5n (ckSv_all B.now Xl[k]) (by omega) hq)
              go_wp2_with (go_at_call 119; refine (svStill_any lo m _ _ _ B Xl[k] _ (HK.out.below HBj.out)).mono ?_; rintro e w3 ⟨he, hb3⟩; replace he := he.trans (congrArg (fun b => Ending.returned (.bool b)) hq); subst he; have HB3 := hide (bt HBj.out hb3); clear hb3)
              go_ret
              exact ⟨ret_bool HF.out.symm, HB3.out⟩
            | true =>
              have HQ := hide hq
              go_wp2_with (go_at_call 119; refine (svStill_any lo m _ _ _ B Xl[k] _ (HK.out.below HBj.out)).mono ?_; rintro e w3 ⟨he, hb3⟩; replace he := he.trans (congrArg (fun b => Ending.returned (.bool b)) HQ.out); subst he; have HB3 := hide (bt HBj.out hb3); have HX3 := hide (HXj.out.on hb3); have HT3 := hide (HTj.out.on hb3); have HK3 := hide (HKj.out.on hb3); clear hb3)
              go_roundw
              case rel => exact ⟨5, by go_num, by omega, HB3.out, HX3.out, HT3.out, HK3.out, fun l hl => by
                            by_cases e : l = 4
                            · rw [e]; exact HQ.out
                            · exact HAj.out l (by omega)⟩
              case measure => simp [intOf]
        · have hjn : j = 5 := by omega
          subst hjn
          have HT : Hid ((svB B.now) Xl[k] = true) := and5 (ckSv_all B.now Xl[k]) HAj.out
          go_wp2
          go_roundw
          case rel => exact ⟨k + 1, by go_num, by omega, HBj.out, HXj.out, HKj.out, step_all HA.out hlt HT.out⟩
          case measure => simp [intOf]; omega
    · have HT : Hid (Xl.all (svB B.now) = true) := all_yes fun i hi => HA.out i hi (by omega)
      go_wp2
      go_ret
      exact ⟨ret_bool HT.out.symm, HB.out⟩

end Go.Proofs.YtpdlcccnlciecaaGreat
