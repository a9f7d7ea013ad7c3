import Derived.Test.YthfdfdlojfdckaaGreatVJB
import Derived.Test.YthfdfdlojfdckaaGreatVH9
import Derived.Test.YthfdfdlojfdckaaGreatVBBL
import Derived.Test.YthfdfdlojfdckaaGreatVB1
import Derived.Test.YthfdfdlojfdckaaGreatVTA
import Derived.Test.YthfdfdlojfdckaaGreatVHA
import Derived.Test.YthfdfdlojfdckaaGreatVBOG
import Derived.Test.YthfdfdlojfdckaaGreatVEE
import Derived.Test.YthfdfdlojfdckaaGreatVDA
import Derived.Test.YthfdfdlojfdckaaGreatVTD
import Derived.Test.YthfdfdlojfdckaaGreatVLA
import Derived.Test.YthfdfdlojfdckaaGreatVNZ
import Derived.Test.YthfdfdlojfdckaaGreatVA1
import Derived.Test.YthfdfdlojfdckaaGreatVTB
import Derived.Test.YthfdfdlojfdckaaGreatVJA
import Derived.Test.YthfdfdlojfdckaaGreatVP1
import Derived.Test.YthfdfdlojfdckaaGreatVJ3
namespace Go.Proofs.YthfdfdlojfdckaaGreat
open Go.RowKit Go.Deep Go.Maps

theorem objects_no2 {Ss : List Sh} {Ts : List Tm} {B : Bk} {FF : Nat → List ByteArray} {m : Nat} (hm : m < B.os.length) (h : risI cObs B.os m = false) : objectsB Ss Ts B FF = false := by
  unfold objectsB
  rw [show risB cObs B.os = false from range_not hm h, Bool.false_and, Bool.and_false]
theorem alone_no1 {Ts : List Tm} {Fs : List Fd} {o : Ob} {F : List ByteArray} (h : ¬ (checkR Fs o.nm o.tm o.vs o.hs o.ver).1 = 0) : aloneB Ts Fs o F = false := by unfold aloneB; rw [decide_eq_false h]; rfl
theorem alone_no2 {Ts : List Tm} {Fs : List Fd} {o : Ob} {F : List ByteArray} (h : hasT Ts o.tm = false) : aloneB Ts Fs o F = false := by unfold aloneB; rw [h, Bool.false_and, Bool.and_false]
theorem alone_no3 {Ts : List Tm} {Fs : List Fd} {o : Ob} {F : List ByteArray} (h : ¬ F = o.vs) : aloneB Ts Fs o F = false := by unfold aloneB; rw [decide_eq_false h, Bool.and_false, Bool.and_false]
theorem alone_yes {Ts : List Tm} {Fs : List Fd} {o : Ob} {F : List ByteArray} (h1 : (checkR Fs o.nm o.tm o.vs o.hs o.ver).1 = 0) (h2 : hasT Ts o.tm = true) (h3 : F = o.vs) : aloneB Ts Fs o F = true := by unfold aloneB; rw [decide_eq_true h1, h2, decide_eq_true h3]; rfl

section
variable (lo : Nat) (sv mv tv ov gv lv pv : Value) (Ss : List Sh) (Ms : List Md) (Ts : List Tm) (B : Bk) (FF : Nat → List ByteArray) (w : World)

set_option maxRecDepth 100000 in
set_option maxHeartbeats 16000000 in
theorem specObjects_any (hl : LawAt lo w sv mv tv Ss Ms Ts) (hmb : mendsB Ss Ms = true) (h : BookAt lo w ov gv lv pv B) (hn : ObsSmall B.os) (hsh : ShapesTo Ss Ms B.os FF) :
    Calls Tryz.prog 63 #[.agg #[sv, mv, tv], .agg #[.int .i64 B.now, .int .i64 B.tick, .int .i64 B.given, ov, gv, lv, pv]] w fun e w' => e = .returned (.bool (objectsB Ss Ts B FF)) ∧ Below w.heap.size w w' := by
  have HL := hide hl
  have HK := hide h
  have HMB := hide hmb
  have HN := hide hn
  have HSH := hide hsh
  obtain ⟨sa, sc, rfl⟩ := hl.shs.form
  obtain ⟨ma, mc, rfl⟩ := hl.mds.form
  obtain ⟨ta, tc, rfl⟩ := hl.tms.form
  obtain ⟨a0, k0, rfl⟩ := h.obs.form
  obtain ⟨a1, k1, rfl⟩ := h.grs.form
  obtain ⟨a2, k2, rfl⟩ := h.les.form
  obtain ⟨a3, k3, rfl⟩ := h.pus.form
  have HI : Hid (objectsB Ss Ts B FF = (decide (B.os.length ≤ 40) && (risB cObs B.os && (List.range B.os.length).all (obAt Ss Ts B FF)))) := rfl
  clear hl hmb h hn hsh
  by_cases hl : B.os.length ≤ 40
  case neg =>
    have HE : Hid (objectsB Ss Ts B FF = false) := by unfold Hid; rw [HI.out, decide_eq_false hl]; rfl
    have hgt : decide ((40 : Int) < (B.os.length : Int)) = true := by simp; omega
    go_enter Tryz.func63, Tryz.ntmps63
    go_wp2
    go_ret
    exact ⟨ret_bool HE.out.symm, (one_al w _).alloc (by simp) _⟩
  have hgt : decide ((40 : Int) < (B.os.length : Int)) = false := by simp; omega
  go_enter Tryz.func63, Tryz.ntmps63
  go_wp2
  generalize hWa : (World.alloc (w.alloc _) _) = Wa
  have HB : Hid (Below w.heap.size w Wa) := by rw [← hWa]; exact (one_al w _).alloc (by simp) _
  have HX : Hid (Box Wa w.heap.size #[.slice sa Ss.length sc, .slice ma Ms.length mc, .slice ta Ts.length tc]) := by rw [← hWa]; exact (Box.new _ _ _ _ rfl).on (one_al _ _)
  have HY : Hid (Box Wa (w.heap.size + 1) #[.int .i64 B.now, .int .i64 B.tick, .int .i64 B.given, .slice a0 B.os.length k0, .slice a1 B.gs.length k1, .slice a2 B.ls.length k2, .slice a3 B.ps.length k3]) := by rw [← hWa]; exact Box.new _ _ _ _ (by simp)
  clear hWa hgt
  go_loopw [5] (fun i wr => ∃ m : Nat, i = .int .i64 m ∧ m ≤ B.os.length ∧ Below w.heap.size w wr ∧ Box wr w.heap.size #[.slice sa Ss.length sc, .slice ma Ms.length mc, .slice ta Ts.length tc] ∧ Box wr (w.heap.size + 1) #[.int .i64 B.now, .int .i64 B.tick, .int .i64 B.given, .slice a0 B.os.length k0, .slice a1 B.gs.length k1, .slice a2 B.ls.length k2, .slice a3 B.ps.length k3] ∧ (∀ j, j < m → obAt Ss Ts B FF j = true) ∧ ∀ j, j < m → risI cObs B.os j = true) (fun i _ => B.os.length - (intOf i).toNat)
  case atStart => exact ⟨0, rfl, Nat.zero_le _, HB.out, HX.out, HY.out, fun j h => by omega, fun j h => by omega⟩
  case round =>
    obtain ⟨m, rfl, hm, hb, hx, hy, hall, hris⟩ := hrel
    have HBr := hide hb
    have HXr := hide hx
    have HYr := hide hy
    have HA := hide hall
    have HS := hide hris
    have z3 := hy.cell 3
    simp at z3
    clear hb hx hy hall hris HB HX HY
    by_cases hlt : m < B.os.length
    · obtain ⟨b, off, rfl, hbw, -, hc⟩ := HK.out.obs.full' (by omega)
      obtain ⟨hs, vv0, vv1, hcell, hv0, hv1⟩ := hc m hlt
      obtain ⟨c0, c1, c2, c3, c4, c5, c6⟩ := hcell.below HBr.out hbw
      have HC : Hid (∀ k (h : k < B.os.length), w.cell? ⟨b, off + k * 7, none⟩ = some (.string B.os[k].kd) ∧ w.cell? ⟨b, off + k * 7 + 1, none⟩ = some (.string B.os[k].nm)) := fun k hk => by
        obtain ⟨_, _, _, hck, _, _⟩ := hc k hk
        exact ⟨hck.c0, hck.c1⟩
      have HZ := hide hs
      have HV := hide hv0.at
      have HH := hide hv1.at
      obtain ⟨va, vcap, rfl⟩ := hv0.at.form'
      obtain ⟨ha, hcap, rfl⟩ := hv1.at.form'
      have HQ := hide (obAt_eq (Ss := Ss) (Ts := Ts) (FF := FF) hlt)
      have n1 : B.os[m].vs.length ≤ 1048576 := (HN.out.2 m hlt).1
      have n2 : B.os[m].hs.length ≤ 1048576 := (HN.out.2 m hlt).2
      have x0 := HXr.out.cell 0
      simp at x0
      have xlt := HXr.out.lt
      have x0 : ∀ o, (wr.alloc o).cell? ⟨w.heap.size, 0, none⟩ = some (.slice sa Ss.length sc) := fun o => (cell_alloc_lt _ _ _ _ xlt).trans x0
      clear hc hcell hs hv0 hv1 xlt
      go_wp2_with fail
      generalize hWb : wr.alloc _ = Wb
      have hbb : Below wr.heap.size wr Wb := by rw [← hWb]; exact one_al _ _
      have HBb : Hid (Below w.heap.size w Wb) := HBr.out.trans (hbb.mono HBr.out.size)
      have HXb := hide (HXr.out.on hbb)
      have HYb := hide (HYr.out.on hbb)
      have HPb : Hid (Box Wb wr.heap.size #[.string B.os[m].kd, .string B.os[m].nm, .string B.os[m].tm, .slice va B.os[m].vs.length vcap, .bool B.os[m].en, .slice ha B.os[m].hs.length hcap, .int .i64 B.os[m].ver]) := by rw [← hWb]; exact Box.new _ _ _ _ rfl
      clear hWb x0 z3 hbb c0 c1 c2 c3 c4 c5 c6 HXr HYr
      generalize hβ : wr.heap.size = β at *
      refine (l2Check_any B.os[m].kd B.os[m].nm B.os[m].tm _ _ _ B.os[m].en B.os[m].ver B.os[m].vs B.os[m].hs Ss _ lo (HL.out.below HBb.out).shs (HV.out.below HBb.out) (HH.out.below HBb.out) HZ.out.s1 HZ.out.s2).mono ?_
      rintro e w1 ⟨rfl, hb1⟩
      have HB1 : Hid (Below w.heap.size w w1) := HBb.out.trans (hb1.mono HBb.out.size)
      have HX1 := hide (HXb.out.on hb1)
      have HY1 := hide (HYb.out.on hb1)
      have HP1 := hide (HPb.out.on hb1)
      clear hb1 HBb HXb HYb HPb
      cases hsh : shOf Ss B.os[m].kd with
      | none =>
        have HE : Hid (objectsB Ss Ts B FF = false) := objects_no hlt (obOne_none hsh)
        rw [checkS_no (fun x hx => by rw [hsh] at hx; cases hx)]
        go_wp2
        go_ret
        exact ⟨ret_bool HE.out.symm, HB1.out⟩
      | some x =>
        have HXS := hide hsh
        have HOS := hide (obOne_some (Ts := Ts) (Os := B.os) (now := B.now) (F := FF m) hsh)
        rw [checkS_some hsh]
        clear hsh
        by_cases hck : (checkR x.fields B.os[m].nm B.os[m].tm B.os[m].vs B.os[m].hs B.os[m].ver).1 = 0
        case neg =>
          have HE : Hid (objectsB Ss Ts B FF = false) := objects_no hlt (by rw [HOS.out, alone_no1 hck]; rfl)
          have hd : ((checkR x.fields B.os[m].nm B.os[m].tm B.os[m].vs B.os[m].hs B.os[m].ver).1 != 0) = true := by simp [bne, hck]
          go_wp2
          go_ret
          exact ⟨ret_bool HE.out.symm, HB1.out⟩
        have hd : ((checkR x.fields B.os[m].nm B.os[m].tm B.os[m].vs B.os[m].hs B.os[m].ver).1 != 0) = false := by simp [bne, hck]
        have HCK := hide hck
        have HLEN := hide (checkR_len hck)
        clear hck
        have t2 := HX1.out.cell 2
        have q2 := HP1.out.cell 2
        have q6 := HP1.out.cell 6
        have y0 := HY1.out.cell 0
        simp at t2 q2 q6 y0
        cases h1 : hasT Ts B.os[m].tm with
        | false =>
          have HE : Hid (objectsB Ss Ts B FF = false) := objects_no hlt (by rw [HOS.out, alone_no2 h1]; rfl)
          go_wp2_with (go_at_call 92; refine (l4Team_any lo _ Ts _ _ (HL.out.below HB1.out).tms).mono ?_; rintro e w1 ⟨rfl, rfl⟩)
          go_ret
          exact ⟨ret_bool HE.out.symm, HB1.out⟩
        | true =>
          cases h2 : inB 1 B.now B.os[m].ver with
          | false =>
            have HE : Hid (objectsB Ss Ts B FF = false) := objects_no hlt (by rw [HOS.out, h2, Bool.false_and, Bool.and_false])
            go_wp2_with (first | (go_at_call 92; refine (l4Team_any lo _ Ts _ _ (HL.out.below HB1.out).tms).mono ?_; rintro e w1 ⟨rfl, rfl⟩) | (go_at_call 62; refine (in_any _ _ _ _).mono ?_; rintro e w1 ⟨rfl, rfl⟩))
            go_ret
            exact ⟨ret_bool HE.out.symm, HB1.out⟩
          | true =>
            go_wp2_with (first | (go_at_call 92; refine (l4Team_any lo _ Ts _ _ (HL.out.below HB1.out).tms).mono ?_; rintro e w1 ⟨rfl, rfl⟩) | (go_at_call 62; refine (in_any _ _ _ _).mono ?_; rintro e w1 ⟨rfl, rfl⟩))
            clear hd t2 q2 q6 y0
            go_cut [76] (fun c wc => c = .bool (!risI cObs B.os m) ∧ Below w1.heap.size w1 wc)
            case first =>
              have y3 := HY1.out.cell 3
              have q0 := HP1.out.cell 0
              have q1 := HP1.out.cell 1
              simp at y3 q0 q1
              by_cases h0 : m = 0
              · have hd0 : decide (0 < m) = false := by simp; omega
                have HRI : Hid (risI cObs B.os m = true) := by unfold Hid; rw [h0]; rfl
                clear h0
                go_quiet ((go_at_call 105; exact (l5Two_any _ _ _ _ _).mono fun _ _ h => ⟨h.1, _, h.2⟩))
                go_wp2
                go_meet
                exact ⟨congrArg Value.bool (by rw [HRI.out]; rfl), below_drewN (Below.refl _ _) _⟩
              · have hd0 : decide (0 < m) = true := by simp; omega
                obtain ⟨k, hkm⟩ : ∃ k, m = k + 1 := ⟨m - 1, by omega⟩
                have hltk : k < B.os.length := by omega
                have yk0 : w1.cell? ⟨b, off + k * 7, none⟩ = some (.string B.os[k].kd) := (HB1.out.cell (p := ⟨b, off + k * 7, none⟩) hbw).trans (HC.out k hltk).1
                have yk1 : w1.cell? ⟨b, off + k * 7 + 1, none⟩ = some (.string B.os[k].nm) := (HB1.out.cell (p := ⟨b, off + k * 7 + 1, none⟩) hbw).trans (HC.out k hltk).2
                have HRI0 : Hid (risI cObs B.os m = decide (cmp2 B.os[k].kd B.os[k].nm B.os[m].kd B.os[m].nm < 0)) := by
                  subst hkm
                  unfold Hid
                  rw [risI_at hlt]
                  rfl
                have e2 : IntKind.i64.wrap ((m : Int) - 1) = k := by rw [IntWalk.i64_left]; unfold wrap64; omega
                have e3 : wrap64 ((m : Int) - 1) = k := by unfold wrap64; omega
                have e4 : (m : Int) - 1 = k := by omega
                have HKM := hide hkm
                clear h0 hkm
                by_cases hnu : cmp2 B.os[k].kd B.os[k].nm B.os[m].kd B.os[m].nm < 0
                · have HRI : Hid (risI cObs B.os m = true) := HRI0.out.trans (decide_eq_true hnu)
                  have hd1 : decide (0 ≤ cmp2 B.os[k].kd B.os[k].nm B.os[m].kd B.os[m].nm) = false := by simp; omega
                  clear hnu
                  go_quiet ((go_at_call 105; exact (l5Two_any _ _ _ _ _).mono fun _ _ h => ⟨h.1, _, h.2⟩))
                  go_wp2
                  go_meet
                  exact ⟨congrArg Value.bool (by rw [HRI.out]; rfl), below_drewN (Below.refl _ _) _⟩
                · have HRI : Hid (risI cObs B.os m = false) := HRI0.out.trans (decide_eq_false hnu)
                  have hd1 : decide (0 ≤ cmp2 B.os[k].kd B.os[k].nm B.os[m].kd B.os[m].nm) = true := by simp; omega
                  clear hnu
                  go_quiet ((go_at_call 105; exact (l5Two_any _ _ _ _ _).mono fun _ _ h => ⟨h.1, _, h.2⟩))
                  go_wp2
                  go_meet
                  exact ⟨congrArg Value.bool (by rw [HRI.out]; rfl), below_drewN (Below.refl _ _) _⟩
            case rest =>
              obtain ⟨hc76, hwn⟩ := hcut
              have HW2 := hide hwn
              have HB2 : Hid (Below w.heap.size w wc) := HB1.out.trans (HW2.out.mono HB1.out.size)
              have HX2 := hide (HX1.out.on HW2.out)
              have HY2 := hide (HY1.out.on HW2.out)
              have HP2 := hide (HP1.out.on HW2.out)
              clear hwn HX1 HY1 HP1
              cases hri : risI cObs B.os m with
              | false =>
                have HE : Hid (objectsB Ss Ts B FF = false) := objects_no2 hlt hri
                rw [hri] at hc76
                subst hc76
                go_wp2
                go_ret
                exact ⟨ret_bool HE.out.symm, HB2.out⟩
              | true =>
                have HR := hide hri
                rw [hri] at hc76
                subst hc76
                clear hri
                go_wp2
                have HD : Hid (Below w.heap.size w wc.drew) := HB2.out.drew
                have hfd := field_values
                go_region_held3 (Held2 wc w.heap.size #[.slice sa Ss.length sc, .slice ma Ms.length mc, .slice ta Ts.length tc] β #[.string B.os[m].kd, .string B.os[m].nm, .string B.os[m].tm, .slice va B.os[m].vs.length vcap, .bool B.os[m].en, .slice ha B.os[m].hs.length hcap, .int .i64 B.os[m].ver])
                  (first
                    | (with_reducible exact Held2.drew HX2.out HP2.out)
                    | (with_reducible exact Held2.on (by assumption) (by assumption)))
                  (first
                    | (go_at_call 107
                       refine (l3Shaped_any B.os[m].kd B.os[m].nm B.os[m].tm _ _ _ _ B.os[m].en B.os[m].ver B.os[m].vs B.os[m].hs Ss Ms _ lo lo (HL.out.below HD.out).shs (HL.out.below HD.out).mds (HV.out.below HD.out) (HH.out.below HD.out) n1 n2 HMB.out).mono ?_
                       rintro e w3 ⟨v', h', F', rfl, hb3, ⟨mid, hlo, hmi, hs3, hs4⟩, hfix⟩
                       have HFF : Hid (F' = FF m) := ShapeTo.unique hfix (HSH.out m hlt)
                       have HC3 : Hid (Below w.heap.size w w3) := HD.out.trans (hb3.mono HD.out.size)
                       have HS3 := hide hs3.at
                       obtain ⟨va', vcap', rfl⟩ := hs3.form
                       obtain ⟨ha', hcap', rfl⟩ := hs4.form
                       clear hfix hs3 hs4 hlo hmi)
                    | (go_at_call 106
                       refine (sameTexts_any _ _ F' B.os[m].vs _ HS3.out (HV.out.below HC3.out)).mono ?_
                       rintro e w4 ⟨he4, hb4⟩
                       obtain ⟨dq, hdq⟩ : ∃ d, d = decide (F' = B.os[m].vs) := ⟨_, rfl⟩
                       rw [← hdq] at he4
                       subst he4
                       have HDQ := hide hdq
                       clear hdq
                       have HC4 : Hid (Below w.heap.size w w4) := HC3.out.trans (hb4.mono HC3.out.size)))
                have hb34 : Below wc.heap.size wc w4 := ((Below.refl _ _).drew.trans hb3).trans (hb4.mono (((Below.refl _ _).drew.trans hb3 : Below wc.heap.size wc w3)).size)
                have HX4 := hide (HX2.out.on hb34)
                have HY4 := hide (HY2.out.on hb34)
                have HP4 := hide (HP2.out.on hb34)
                have HF4 := hide HFF.out
                clear hb3 hb4 hb34 HX2 HY2 HP2 HC3 HS3 HD hfd
                cases dq with
                | false =>
                  have hfv : ¬ F' = B.os[m].vs := of_decide_eq_false HDQ.out.symm
                  have HE : Hid (objectsB Ss Ts B FF = false) := objects_no hlt (by rw [HOS.out, alone_no3 (fun e => hfv (HF4.out.trans e))]; rfl)
                  clear hfv
                  go_wp2
                  go_ret
                  exact ⟨ret_bool HE.out.symm, HC4.out⟩
                | true =>
                  have hfv : F' = B.os[m].vs := of_decide_eq_true HDQ.out.symm
                  have HAL : Hid (aloneB Ts x.fields B.os[m] (FF m) = true) := alone_yes HCK.out h1 (by rw [← HF4.out]; exact hfv)
                  clear hfv
                  have x0 := HX4.out.cell 0
                  have q0 := HP4.out.cell 0
                  have q1 := HP4.out.cell 1
                  have q2 := HP4.out.cell 2
                  have q3 := HP4.out.cell 3
                  have q4 := HP4.out.cell 4
                  have q5 := HP4.out.cell 5
                  have q6 := HP4.out.cell 6
                  simp at x0 q0 q1 q2 q3 q4 q5 q6
                  go_wp2_with fail
                  clear x0 q0 q1 q2 q3 q4 q5 q6
                  refine (l2Fields_any B.os[m].kd B.os[m].nm B.os[m].tm _ _ _ B.os[m].en B.os[m].ver B.os[m].vs B.os[m].hs Ss _ lo w HL.out.shs HC4.out (HV.out.below HC4.out) (HH.out.below HC4.out)).mono ?_
                  rintro e w5 ⟨hb5, hq⟩
                  have HB5 : Hid (Below w.heap.size w w5) := HC4.out.trans (hb5.mono HC4.out.size)
                  have HX5 := hide (HX4.out.on hb5)
                  have HY5 := hide (HY4.out.on hb5)
                  have HP5 := hide (HP4.out.on hb5)
                  clear hb5 HX4 HY4 HP4 HC4
                  rcases hq with ⟨x', fv, hsh', hl', rfl, hF⟩ | ⟨hno, _⟩
                  case inr => exact absurd HLEN.out.symm (hno x HXS.out)
                  obtain rfl : x = x' := Option.some.inj (HXS.out.symm.trans hsh')
                  have HF := hide hF
                  obtain ⟨fa, fcap, rfl⟩ := hF.form
                  clear hF hsh' hl'
                  go_wp2
                  go_loopw [11] (fun i wr => ∃ q : Nat, i = .int .i64 q ∧ q ≤ x.fields.length ∧ Below w.heap.size w wr ∧ Box wr w.heap.size #[.slice sa Ss.length sc, .slice ma Ms.length mc, .slice ta Ts.length tc] ∧ Box wr (w.heap.size + 1) #[.int .i64 B.now, .int .i64 B.tick, .int .i64 B.given, .slice (some ⟨b, off, none⟩) B.os.length k0, .slice a1 B.gs.length k1, .slice a2 B.ls.length k2, .slice a3 B.ps.length k3] ∧ Box wr β #[.string B.os[m].kd, .string B.os[m].nm, .string B.os[m].tm, .slice va B.os[m].vs.length vcap, .bool B.os[m].en, .slice ha B.os[m].hs.length hcap, .int .i64 B.os[m].ver] ∧ (ties x.fields B.os[m].vs q).all (tiedOne B.os) = true) (fun i _ => x.fields.length - (intOf i).toNat)
                  case atStart => exact ⟨0, rfl, Nat.zero_le _, HB5.out, HX5.out, HY5.out, HP5.out, rfl⟩
                  case round =>
                    obtain ⟨q, rfl, hq, hb, hx, hy, hp, hall⟩ := hrel
                    have HBi := hide hb
                    have HXi := hide hx
                    have HYi := hide hy
                    have HPi := hide hp
                    have HAi := hide hall
                    clear hb hx hy hp hall HB5 HX5 HY5 HP5
                    by_cases hlq : q < x.fields.length
                    · have hlv : q < B.os[m].vs.length := by have := HLEN.out; omega
                      obtain ⟨fb, foff, rfl, hfb, hfc⟩ := HF.out.full' (by omega)
                      obtain ⟨hsz, wv, hcell, hst⟩ := hfc q hlq
                      obtain ⟨vb, voff, rfl, hvb, hvc, hvs⟩ := HV.out.spread (by omega)
                      have HST := hide (ties_succ hlq hlv)
                      have HTO : Hid (tieOne q x.fields[q] B.os[m].vs[q] = if (x.fields[q].kd == 4 && !B.os[m].vs[q].toList.isEmpty) = true then [(q, x.fields[q].ro, x.fields[q].to, B.os[m].vs[q])] else []) := rfl
                      go_wp2
                      go_cut [129] (fun c wc => c = .bool (!(tieOne q x.fields[q] B.os[m].vs[q]).all (tiedOne B.os)) ∧ Below wr.heap.size wr wc)
                      case first =>
                        have xn : Nonempty (In (Up wr)) := ⟨⟨wr, Below.refl _ _⟩⟩
                        have xs := fun (X : In (Up wr)) => in_self X
                        have z1 : ∀ X : In (Up wr), X.w.cell? ⟨fb, foff + q * 11 + 1, none⟩ = some (.int .i64 x.fields[q].kd) := fun X => Up.cell X (hcell.below HBi.out hfb).c1
                        have z5 : ∀ X : In (Up wr), X.w.cell? ⟨fb, foff + q * 11 + 5, none⟩ = some (.string x.fields[q].to) := fun X => Up.cell X (hcell.below HBi.out hfb).c5
                        have zv : ∀ X : In (Up wr), X.w.cell? ⟨vb, voff + q, none⟩ = some (.string B.os[m].vs[q]) := fun X => Up.cell X ((HBi.out.cell (p := ⟨vb, voff + q, none⟩) hvb).trans (hvc q hlv))
                        have q3 : ∀ X : In (Up wr), X.w.cell? ⟨β, 3, none⟩ = some (.slice (some ⟨vb, voff, none⟩) B.os[m].vs.length vcap) := fun X => Up.cell X (by rw [HPi.out.cell 3]; rfl)
                        have x0 : ∀ X : In (Up wr), X.w.cell? ⟨w.heap.size + 1, 0, none⟩ = some (.int .i64 B.now) := fun X => Up.cell X (by rw [HYi.out.cell 0]; rfl)
                        have x1 : ∀ X : In (Up wr), X.w.cell? ⟨w.heap.size + 1, 1, none⟩ = some (.int .i64 B.tick) := fun X => Up.cell X (by rw [HYi.out.cell 1]; rfl)
                        have x2 : ∀ X : In (Up wr), X.w.cell? ⟨w.heap.size + 1, 2, none⟩ = some (.int .i64 B.given) := fun X => Up.cell X (by rw [HYi.out.cell 2]; rfl)
                        have x3 : ∀ X : In (Up wr), X.w.cell? ⟨w.heap.size + 1, 3, none⟩ = some (.slice (some ⟨b, off, none⟩) B.os.length k0) := fun X => Up.cell X (by rw [HYi.out.cell 3]; rfl)
                        have x4 : ∀ X : In (Up wr), X.w.cell? ⟨w.heap.size + 1, 4, none⟩ = some (.slice a1 B.gs.length k1) := fun X => Up.cell X (by rw [HYi.out.cell 4]; rfl)
                        have x5 : ∀ X : In (Up wr), X.w.cell? ⟨w.heap.size + 1, 5, none⟩ = some (.slice a2 B.ls.length k2) := fun X => Up.cell X (by rw [HYi.out.cell 5]; rfl)
                        have x6 : ∀ X : In (Up wr), X.w.cell? ⟨w.heap.size + 1, 6, none⟩ = some (.slice a3 B.ps.length k3) := fun X => Up.cell X (by rw [HYi.out.cell 6]; rfl)
                        have hd := obP_neg B.os x.fields[q].to B.os[m].vs[q]
                        clear hfc hsz hcell hst hvc hvs
                        refine wp_region_class (Up wr) (by kernel_rfl) (by kernel_rfl) ((Below.refl _ _).drew) ?_
                        cases hk1 : (x.fields[q].kd == 4) with
                        | false =>
                          repeat (go_big_quiet_step ((go_at_call 109; rename_i X; exact (l5At_any lo _ _ _ _ B _ _ _ (HK.out.below (HBi.out.trans (X.h.mono HBi.out.size)))).mono fun _ _ h => ⟨h.1, Up.next X h.2⟩)))
                          refine wpQuiet_nil ?_
                          intro wn hw
                          obtain ⟨X, hX⟩ := hw
                          have HWN : Below wr.heap.size wr wn := by rw [hX]; exact X.h
                          clear hX X xs xn z1 z5 zv q3 x0 x1 x2 x3 x4 x5 x6
                          go_wp2
                          go_meet
                          exact ⟨congrArg Value.bool (by rw [HTO.out, hk1]; rfl), HWN⟩
                        | true =>
                          cases hk2 : B.os[m].vs[q].toList.isEmpty with
                          | true =>
                            repeat (go_big_quiet_step ((go_at_call 109; rename_i X; exact (l5At_any lo _ _ _ _ B _ _ _ (HK.out.below (HBi.out.trans (X.h.mono HBi.out.size)))).mono fun _ _ h => ⟨h.1, Up.next X h.2⟩)))
                            refine wpQuiet_nil ?_
                            intro wn hw
                            obtain ⟨X, hX⟩ := hw
                            have HWN : Below wr.heap.size wr wn := by rw [hX]; exact X.h
                            clear hX X xs xn z1 z5 zv q3 x0 x1 x2 x3 x4 x5 x6
                            go_wp2
                            go_meet
                            exact ⟨congrArg Value.bool (by rw [HTO.out, hk1, hk2]; rfl), HWN⟩
                          | false =>
                            cases h3 : B.os.any (obIs x.fields[q].to B.os[m].vs[q]) with
                            | true =>
                              rw [h3] at hd
                              repeat (go_big_quiet_step ((go_at_call 109; rename_i X; exact (l5At_any lo _ _ _ _ B _ _ _ (HK.out.below (HBi.out.trans (X.h.mono HBi.out.size)))).mono fun _ _ h => ⟨h.1, Up.next X h.2⟩)))
                              refine wpQuiet_nil ?_
                              intro wn hw
                              obtain ⟨X, hX⟩ := hw
                              have HWN : Below wr.heap.size wr wn := by rw [hX]; exact X.h
                              clear hX X xs xn z1 z5 zv q3 x0 x1 x2 x3 x4 x5 x6
                              go_wp2
                              go_meet
                              exact ⟨congrArg Value.bool (by rw [HTO.out, hk1, hk2]; show false = !(B.os.any (obIs x.fields[q].to B.os[m].vs[q]) && true); rw [h3]; rfl), HWN⟩
                            | false =>
                              rw [h3] at hd
                              repeat (go_big_quiet_step ((go_at_call 109; rename_i X; exact (l5At_any lo _ _ _ _ B _ _ _ (HK.out.below (HBi.out.trans (X.h.mono HBi.out.size)))).mono fun _ _ h => ⟨h.1, Up.next X h.2⟩)))
                              refine wpQuiet_nil ?_
                              intro wn hw
                              obtain ⟨X, hX⟩ := hw
                              have HWN : Below wr.heap.size wr wn := by rw [hX]; exact X.h
                              clear hX X xs xn z1 z5 zv q3 x0 x1 x2 x3 x4 x5 x6
                              go_wp2
                              go_meet
                              exact ⟨congrArg Value.bool (by rw [HTO.out, hk1, hk2]; show true = !(B.os.any (obIs x.fields[q].to B.os[m].vs[q]) && true); rw [h3]; rfl), HWN⟩
                      case rest =>
                        obtain ⟨hc129, hwn⟩ := hcut
                        have HWN := hide hwn
                        have HWB : Hid (Below w.heap.size w wc) := HBi.out.trans (HWN.out.mono HBi.out.size)
                        have HXw := hide (HXi.out.on HWN.out)
                        have HYw := hide (HYi.out.on HWN.out)
                        have HPw := hide (HPi.out.on HWN.out)
                        clear hwn hfc hsz hcell hst hvc hvs HXi HYi HPi
                        cases hti : (tieOne q x.fields[q] B.os[m].vs[q]).all (tiedOne B.os) with
                        | false =>
                          have HE : Hid (objectsB Ss Ts B FF = false) := objects_no hlt (by rw [HOS.out, tied_no (show q + 1 ≤ x.fields.length by omega) (by rw [HST.out, List.all_append, hti, Bool.and_false]), Bool.and_false, Bool.and_false])
                          rw [hti] at hc129
                          subst hc129
                          go_wp2
                          go_ret
                          exact ⟨ret_bool HE.out.symm, HWB.out⟩
                        | true =>
                          have HAT : Hid ((ties x.fields B.os[m].vs (q + 1)).all (tiedOne B.os) = true) := by unfold Hid; rw [HST.out, List.all_append, HAi.out, hti]; rfl
                          rw [hti] at hc129
                          subst hc129
                          go_wp2
                          go_roundw
                          case rel => exact ⟨q + 1, by go_num, by omega, HWB.out, HXw.out, HYw.out, HPw.out, HAT.out⟩
                          case measure => simp [intOf]; omega
                    · have he : q = x.fields.length := by omega
                      subst he
                      have HT : Hid (obAt Ss Ts B FF m = true) := by unfold Hid; rw [HQ.out, HOS.out, HAL.out, h2, show tiedB B.os x.fields B.os[m].vs = true from HAi.out]; rfl
                      go_wp2
                      go_roundw
                      case rel => exact ⟨m + 1, by go_num, by omega, HBi.out, HXi.out, HYi.out, step_ob HA.out HT.out, step_ob (p := risI cObs B.os) HS.out HR.out⟩
                      case measure => simp [intOf]; omega
    · have HT : Hid (objectsB Ss Ts B FF = true) := objects_yes hl (range_all (fun j hj => HS.out j (by omega))) (fun i hi => HA.out i (by omega))
      go_wp2
      go_ret
      exact ⟨ret_bool HT.out.symm, HBr.out⟩
end
end Go.Proofs.YthfdfdlojfdckaaGreat

