import Derived.Test.YtjkkbkdpoebfaaaGreatV42
import Derived.WalkMore
namespace Go.Proofs.YtjkkbkdpoebfaaaGreat
open Go.RowKit Go.Deep

theorem StrsAt.full' {w : World} {a : Option Addr} {n cap : Nat} {L : List ByteArray} (h : StrsAt w (.slice a n cap) L) (hL : 0 < L.length) :
    ∃ b off, a = some ⟨b, off, none⟩ ∧ b < w.heap.size ∧ ∀ i (h : i < L.length), w.cell? ⟨b, off + i, none⟩ = some (.string L[i]) := by
  rcases h with ⟨a', cap', h, rfl⟩ | ⟨b', off', cap', h1, h2, h3, h4, h5, h6⟩
  · simp at hL
  · injection h1 with e1 e2 e3
    exact ⟨b', off', e1, h4, h5⟩

set_option maxRecDepth 20000 in
set_option maxHeartbeats 2000000 in
theorem given_any (lo : Nat) (kind : ByteArray) (v vv : Value) (Fs : List Fd) (m : Md) (V : List ByteArray) (w0 w : World) (hv : FdsAt lo w0 v Fs) (h0 : Below w0.heap.size w0 w) (hV : StrsAt w vv V) (hl : Fs.length = V.length) (h6 : Fs.length ≤ 6) (hr : m.fr.toList.isEmpty = true ∨ m.fr ∈ namesF Fs) :
    Calls Tryz.prog 78 #[.agg #[.string kind, v], .agg #[.string m.kind, .string m.field, .string m.wh, .string m.is, .string m.put, .string m.fr], vv] w fun e w' => e = .returned (.string (givenV Fs V m)) ∧ Below w.heap.size w w' := by
  have HV := hide hv
  have H0 := hide h0
  have HVV := hide hV
  obtain ⟨a, cap, rfl⟩ := hv.form
  obtain ⟨va, vcap, rfl⟩ := hV.form'
  have HL := hide hl
  clear hv h0 hV hl
  have HW : ∀ o o', Hid (Below w.heap.size w ((w.alloc o).alloc o')) := fun o o' => ((Below.refl _ _).alloc (Nat.le_refl _) _).alloc (by simp) _
  cases hfe : m.fr.toList.isEmpty with
  | true =>
    have HQ : Hid (givenV Fs V m = m.put) := by unfold Hid givenV; rw [if_pos hfe]
    go_enter Tryz.func78, Tryz.ntmps78
    go_wp2
    go_ret
    exact ⟨by rw [HQ.out]; rfl, (HW _ _).out⟩
  | false =>
    have hp : plOf Fs m.fr < Fs.length := plOf_lt.2 (by rcases hr with h | h; rw [h] at hfe; cases hfe; exact h)
    have hpv : plOf Fs m.fr < V.length := by have := HL.out; omega
    have HQ : Hid (givenV Fs V m = V[plOf Fs m.fr]) := by unfold Hid givenV valAt; rw [if_neg (by rw [hfe]; simp), List.getElem?_eq_getElem hpv]; rfl
    have HP : Hid (placeI Fs m.fr = plOf Fs m.fr) := placeI_lt hp
    obtain ⟨b, off, rfl, hbw, hc⟩ := HVV.out.full' (by omega)
    have h6' : V.length ≤ 6 := by have := HL.out; omega
    have ck := hc _ hpv
    clear hc
    go_enter Tryz.func78, Tryz.ntmps78
    go_wp2_with fail
    refine (placeOf_any lo _ _ Fs m.fr _ (HV.out.below (H0.out.trans ((HW _ _).out.mono H0.out.size)))).mono ?_
    rintro e w1 ⟨rfl, hb1⟩
    have HB1 : Hid (Below w.heap.size w w1) := (HW _ _).out.trans (hb1.mono (by simp; omega))
    have ck1 : w1.cell? ⟨b, off + plOf Fs m.fr, none⟩ = some (.string V[plOf Fs m.fr]) := by rw [HB1.out.cell (p := ⟨b, _, none⟩) hbw]; exact ck
    rw [HP.out]
    clear hb1 ck HP
    generalize plOf Fs m.fr = p at *
    go_wp2
    go_ret
    exact ⟨by rw [HQ.out]; rfl, HB1.out⟩

/-- WHAT gateDecided TELLS -/
def DecR (Fs : List Fd) (kind : ByteArray) (Ms : List Md) (V : List ByteArray) (f : ByteArray) (e : Ending) : Prop :=
  (∃ v, decM Fs kind Ms V f = some v ∧ e = .returned (.tuple #[.string v, .bool true])) ∨ (decM Fs kind Ms V f = none ∧ e = .returned (.tuple #[.string ⟨#[]⟩, .bool false]))
/-- what the mends of a kind name is there -/
def Named (Fs : List Fd) (kind : ByteArray) (Ms : List Md) : Prop := ∀ m ∈ Ms, m.kind = kind → (m.wh.toList.isEmpty = true ∨ m.wh ∈ namesF Fs) ∧ (m.fr.toList.isEmpty = true ∨ m.fr ∈ namesF Fs)

set_option maxRecDepth 20000 in
set_option maxHeartbeats 8000000 in
theorem decided_any (lo lm : Nat) (kind f : ByteArray) (v mv vv : Value) (Ss : List Sh) (Fs : List Fd) (Ms : List Md) (V : List ByteArray) (w0 w : World) (hv : FdsAt lo w0 v Fs) (h0 : Below w0.heap.size w0 w) (hM : MdsAt lm w mv Ms) (hV : StrsAt w vv V)
    (hfb : fieldsB Ss Fs = true) (hl : Fs.length = V.length) (hn : Named Fs kind Ms) (h12 : Ms.length ≤ 12) :
    Calls Tryz.prog 44 #[.agg #[.string kind, v], mv, vv, .string f] w fun e w' => Below w.heap.size w w' ∧ DecR Fs kind Ms V f e := by
  have HV := hide hv
  have H0 := hide h0
  have HM := hide hM
  have HVV := hide hV
  have HFB := hide hfb
  have HN := hide hn
  have h6 : Fs.length ≤ 6 := fields_six hfb
  obtain ⟨a, cap, rfl⟩ := hv.form
  obtain ⟨ma, mcap, rfl⟩ := hM.form
  obtain ⟨va, vcap, rfl⟩ := hV.form'
  have HL := hide hl
  have h6' : V.length ≤ 6 := by omega
  clear hv h0 hM hV hfb hn hl
  go_enter Tryz.func44, Tryz.ntmps44
  go_wp2
  go_step3
  go_wp2
  go_step3
  go_wp2
  generalize hWa : w.alloc _ = Wa
  have hza : Wa.heap.size = w.heap.size + 1 := by rw [← hWa]; simp
  have HBa : Hid (Below w.heap.size w Wa) := by rw [← hWa]; exact one_al _ _
  have FS : Hid (Box Wa w.heap.size #[.string kind, .slice a Fs.length cap]) := by rw [← hWa]; exact Box.new _ _ _ _ rfl
  clear hWa
  go_loopw [16] (fun i wr => ∃ k : Nat, i = .int .i64 k ∧ k ≤ Ms.length ∧ Below Wa.heap.size Wa wr ∧ ∀ i (h : i < Ms.length), i < k → (forB kind f Ms[i] && appB Fs V Ms[i]) = false) (fun i _ => Ms.length - (intOf i).toNat)
  case atStart => exact ⟨0, rfl, by omega, Below.refl _ _, fun i _ h => by omega⟩
  case round =>
    obtain ⟨k, rfl, hk, hb, hall⟩ := hrel
    have HA := hide hall
    have HB := hide hb
    have HBw : Hid (Below w.heap.size w wr) := HBa.out.trans (hb.mono (by omega))
    have FSr := hide (FS.out.on hb)
    clear hall hb
    by_cases hlt : k < Ms.length
    · obtain ⟨b, off, rfl, hbw, hc⟩ := HM.out.full' (by omega)
      obtain ⟨hsz, hcell⟩ := hc k hlt
      obtain ⟨c0, c1, c2, c3, c4, c5⟩ := hcell.below HBw.out hbw
      have g1 := FSr.out.cell
      have gl := FSr.out.lt
      clear hcell hc
      have HNX : Hid ((forB kind f Ms[k] && appB Fs V Ms[k]) = false → ∀ i (h : i < Ms.length), i < k + 1 → (forB kind f Ms[i] && appB Fs V Ms[i]) = false) := fun h i hi hik => by
        by_cases e : i = k
        · subst e; exact h
        · exact HA.out i hi (by omega)
      cases hk1 : (Ms[k].kind.toList == kind.toList) with
      | false =>
        go_wp2
        go_roundw
        case rel => exact ⟨k + 1, by go_num, by omega, HB.out.alloc HB.out.size _, HNX.out (by unfold forB; simp [hk1])⟩
        case measure => simp [intOf]; omega
      | true =>
        cases hf1 : (Ms[k].field.toList == f.toList) with
        | false =>
          go_wp2
          go_roundw
          case rel => exact ⟨k + 1, by go_num, by omega, HB.out.alloc HB.out.size _, HNX.out (by unfold forB; simp [hf1])⟩
          case measure => simp [intOf]; omega
        | true =>
          have HFOR : Hid (forB kind f Ms[k] = true) := by unfold Hid forB; simp [hk1, hf1]
          have HNM := hide (HN.out Ms[k] (List.getElem_mem hlt) (bytes_eq.1 hk1))
          go_wp2
          clear c0 c1 c2 c3 c4 c5 g1 gl hk1 hf1
          generalize hWm : wr.alloc _ = Wm
          have hbm : Below wr.heap.size wr Wm := by rw [← hWm]; exact one_al _ _
          have hzm : Wm.heap.size = wr.heap.size + 1 := by rw [← hWm]; simp
          have FM : Hid (Box Wm wr.heap.size #[.string Ms[k].kind, .string Ms[k].field, .string Ms[k].wh, .string Ms[k].is, .string Ms[k].put, .string Ms[k].fr]) := by rw [← hWm]; exact Box.new _ _ _ _ rfl
          have FSm := hide (FSr.out.on hbm)
          have HBm : Hid (Below Wa.heap.size Wa Wm) := HB.out.trans (hbm.mono HB.out.size)
          have HBmw : Hid (Below w.heap.size w Wm) := HBw.out.trans (hbm.mono HBw.out.size)
          clear hWm hbm FSr HB HBw
          go_loopw [34] (fun i wr => ∃ p : Nat, i = .int .i64 p ∧ p ≤ Fs.length ∧ Below Wm.heap.size Wm wr ∧ ∀ j (h : j < Fs.length) (h' : j < V.length), j < p → trigB Fs[j].nm V[j] Ms[k] = false) (fun i _ => Fs.length - (intOf i).toNat)
          case atStart => exact ⟨0, rfl, by omega, Below.refl _ _, fun i _ _ h => by omega⟩
          case round =>
            obtain ⟨p, rfl, hp, hbp, hallp⟩ := hrel
            have HAP := hide hallp
            have HBP := hide hbp
            have FMp := hide (FM.out.on hbp)
            have FSp := hide (FSm.out.on hbp)
            have HBPa : Hid (Below Wa.heap.size Wa wr) := HBm.out.trans (hbp.mono HBm.out.size)
            have HBPw : Hid (Below w.heap.size w wr) := HBmw.out.trans (hbp.mono HBmw.out.size)
            clear hallp hbp FM FSm HBm HBmw
            have g1 := FSp.out.cell
            have gl := FSp.out.lt
            have g2 := FMp.out.cell
            have gl2 := FMp.out.lt
            by_cases hpl : p < Fs.length
            · have hpv : p < V.length := by have := HL.out; omega
              obtain ⟨fb, fo, rfl, hfb, hfc⟩ := HV.out.full' (by omega)
              obtain ⟨_, wv, hfcell, hwd⟩ := hfc p hpl
              obtain ⟨wa, wn, wcap, rfl⟩ := hwd.form
              obtain ⟨d0, d1, d2, d3, d4, d5, d6, d7, d8, d9, d10⟩ := hfcell.below (H0.out.trans (HBPw.out.mono H0.out.size)) hfb
              have hfr : fb < wr.heap.size := Nat.lt_of_lt_of_le hfb (Nat.le_trans H0.out.size HBPw.out.size)
              obtain ⟨vb, vo, rfl, hvb, hvc⟩ := HVV.out.full' (by omega)
              have ck : wr.cell? ⟨vb, vo + p, none⟩ = some (.string V[p]) := by rw [HBPw.out.cell (p := ⟨vb, _, none⟩) hvb]; exact hvc p hpv
              have hvr : vb < wr.heap.size := Nat.lt_of_lt_of_le hvb HBPw.out.size
              have HNP : Hid (trigB Fs[p].nm V[p] Ms[k] = false → ∀ j (h : j < Fs.length) (h' : j < V.length), j < p + 1 → trigB Fs[j].nm V[j] Ms[k] = false) := fun h j hj hj' hjp => by
                by_cases e : j = p
                · subst e; exact h
                · exact HAP.out j hj hj' (by omega)
              clear hfcell hfc hwd hvc
              cases h1 : (Fs[p].nm.toList == Ms[k].wh.toList) with
              | false =>
                cases h3 : (Fs[p].nm.toList == Ms[k].fr.toList) with
                | false =>
                  go_wp2
                  go_quiet (fail)
                  go_wp2
                  go_roundw
                  case rel => exact ⟨p + 1, by go_num, by omega, below_drewN (HBP.out.alloc HBP.out.size _) _, HNP.out (by unfold trigB; simp [h1, h3])⟩
                  case measure => simp [intOf]; omega
                | true =>
                  cases h4 : V[p].toList.isEmpty with
                  | true =>
                    go_wp2
                    go_quiet (fail)
                    go_wp2
                    exact ⟨⟨k + 1, by go_num, by omega, below_drewN (HBPa.out.alloc HBPa.out.size _) _, HNX.out (by rw [app_no HFB.out hpl hpv (by unfold trigB; simp [h1, h3, h4])]; simp)⟩, by simp [intOf]; omega⟩
                  | false =>
                    go_wp2
                    go_quiet (fail)
                    go_wp2
                    go_roundw
                    case rel => exact ⟨p + 1, by go_num, by omega, below_drewN (HBP.out.alloc HBP.out.size _) _, HNP.out (by unfold trigB; simp [h1, h3, h4])⟩
                    case measure => simp [intOf]; omega
              | true =>
                cases h2 : (V[p].toList == Ms[k].is.toList) with
                | false =>
                  go_wp2
                  go_quiet (fail)
                  go_wp2
                  exact ⟨⟨k + 1, by go_num, by omega, below_drewN (HBPa.out.alloc HBPa.out.size _) _, HNX.out (by rw [app_no HFB.out hpl hpv (by unfold trigB; simp [h1, h2])]; simp)⟩, by simp [intOf]; omega⟩
                | true =>
                  cases h3 : (Fs[p].nm.toList == Ms[k].fr.toList) with
                  | false =>
                    go_wp2
                    go_quiet (fail)
                    go_wp2
                    go_roundw
                    case rel => exact ⟨p + 1, by go_num, by omega, below_drewN (HBP.out.alloc HBP.out.size _) _, HNP.out (by unfold trigB; simp [h1, h2, h3])⟩
                    case measure => simp [intOf]; omega
                  | true =>
                    cases h4 : V[p].toList.isEmpty with
                    | true =>
                      go_wp2
                      go_quiet (fail)
                      go_wp2
                      exact ⟨⟨k + 1, by go_num, by omega, below_drewN (HBPa.out.alloc HBPa.out.size _) _, HNX.out (by rw [app_no HFB.out hpl hpv (by unfold trigB; simp [h1, h2, h3, h4])]; simp)⟩, by simp [intOf]; omega⟩
                    | false =>
                      go_wp2
                      go_quiet (fail)
                      go_wp2
                      go_roundw
                      case rel => exact ⟨p + 1, by go_num, by omega, below_drewN (HBP.out.alloc HBP.out.size _) _, HNP.out (by unfold trigB; simp [h1, h2, h3, h4])⟩
                      case measure => simp [intOf]; omega
            · have HAPP : Hid (appB Fs V Ms[k] = true) := app_yes HL.out HNM.out.1 HNM.out.2 fun j hj hj' => HAP.out j hj hj' (by omega)
              have HD : Hid (decM Fs kind Ms V f = some (givenV Fs V Ms[k])) := decM_some hlt (by rw [HFOR.out, HAPP.out]; rfl) HA.out
              go_wp2_with fail
              clear g1 g2 gl gl2
              refine (given_any lo _ _ _ Fs Ms[k] V w0 _ HV.out (H0.out.trans (HBPw.out.mono H0.out.size)) (HVV.out.below HBPw.out) HL.out h6 HNM.out.2).mono ?_
              rintro e w2 ⟨rfl, hb2⟩
              have HB2 : Hid (Below w.heap.size w w2) := HBPw.out.trans (hb2.mono HBPw.out.size)
              clear hb2
              go_wp2
              try rw [Exit.noGoto_ret]
              refine bodyPost_ret (v := .tuple #[.string (givenV Fs V Ms[k]), .bool true]) (by simp [results, Tryz.results44, go_sem]) rfl ⟨HB2.out, Or.inl ⟨_, HD.out, rfl⟩⟩
    · have HQ : Hid (decM Fs kind Ms V f = none) := decM_none fun i h => HA.out i h (by omega)
      go_wp2
      try rw [Exit.noGoto_ret]
      refine bodyPost_ret (v := .tuple #[.string ⟨#[]⟩, .bool false]) (by simp [results, Tryz.results44, go_sem]) rfl ⟨HBw.out, Or.inr ⟨HQ.out, rfl⟩⟩
end Go.Proofs.YtjkkbkdpoebfaaaGreat
