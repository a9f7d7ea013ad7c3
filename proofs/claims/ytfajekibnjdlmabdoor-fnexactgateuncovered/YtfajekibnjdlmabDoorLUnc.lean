import Derived.Test.YtfajekibnjdlmabDoorU5
namespace Go.Proofs.YtfajekibnjdlmabDoor
open Go.RowKit Go.Deep

theorem below_al {X Y : World} {o : Obj} (h : Below (X.alloc o).heap.size (X.alloc o) Y) : Below X.heap.size X Y := bt (one_al X o) h
theorem box_al {X Y : World} {cs : Array Value} {t : TypeId} (h : Below (X.alloc (.cells cs t)).heap.size (X.alloc (.cells cs t)) Y) : Box Y X.heap.size cs := (Box.new X cs t _ rfl).on h
theorem Box.put4 {w : World} {β : Nat} {z0 z1 z2 z3 : Value} (h : Box w β #[z0, z1, z2, z3]) (u0 u1 u2 u3 : Value) : Box ((((w.setCell ⟨β, 0, none⟩ u0).setCell ⟨β, 1, none⟩ u1).setCell ⟨β, 2, none⟩ u2).setCell ⟨β, 3, none⟩ u3) β #[u0, u1, u2, u3] :=
  (((h.put 0 (by simp) u0).put 1 (by simp) u1).put 2 (by simp) u2).put 3 (by simp) u3
theorem Below.set4 {B β : Nat} {a w : World} (h : Below B a w) (hb : B ≤ β) (u0 u1 u2 u3 : Value) : Below B a ((((w.setCell ⟨β, 0, none⟩ u0).setCell ⟨β, 1, none⟩ u1).setCell ⟨β, 2, none⟩ u2).setCell ⟨β, 3, none⟩ u3) :=
  (((h.setCell hb u0).setCell hb u1).setCell hb u2).setCell hb u3
/-- what GateUncovered answers, part by part -/
def UncA (Ts : List Tm) (Rs : List Ru) (r : Ru) (n : Int) (k t p : ByteArray) (ok : Bool) : Prop :=
  (¬ (allokB Ts Rs r = true ∧ (num (missP Ts Rs r) == 0) = false) ∧ n = 0 ∧ k = ⟨#[]⟩ ∧ t = ⟨#[]⟩ ∧ p = ⟨#[]⟩ ∧ ok = false) ∨
  (allokB Ts Rs r = true ∧ (num (missP Ts Rs r) == 0) = false ∧ n = leastP (missP Ts Rs r) ∧ p = r.pf ∧ ok = true ∧ IsAct Ts Rs r k t)
theorem UncR.parts {Ts : List Tm} {Rs : List Ru} {r : Ru} {e : Ending} (h : UncR Ts Rs r e) : ∃ n k t p ok, e = .returned (.tuple #[.agg #[.int .i64 n, .string k, .string t, .string p], .bool ok]) ∧ UncA Ts Rs r n k t p ok := by
  rcases h with ⟨h1, h2⟩ | ⟨h1, h2, k, t, h3, h4⟩
  · exact ⟨_, _, _, _, _, h2, Or.inl ⟨h1, rfl, rfl, rfl, rfl, rfl⟩⟩
  · exact ⟨_, k, t, _, _, h3, Or.inr ⟨h1, h2, rfl, rfl, rfl, h4⟩⟩
theorem UncA.one {Ts : List Tm} {Rs : List Ru} {r : Ru} {n n' : Int} {k t p k' t' p' : ByteArray} {ok ok' : Bool} (h : UncA Ts Rs r n k t p ok) (h' : UncA Ts Rs r n' k' t' p' ok') : n = n' ∧ k = k' ∧ t = t' ∧ p = p' ∧ ok = ok' := by
  rcases h with ⟨h1, a1, a2, a3, a4, a5⟩ | ⟨h1, h2, a1, a4, a5, h3⟩
  · rcases h' with ⟨g1, b1, b2, b3, b4, b5⟩ | ⟨g1, g2, _⟩
    · exact ⟨a1.trans b1.symm, a2.trans b2.symm, a3.trans b3.symm, a4.trans b4.symm, a5.trans b5.symm⟩
    · exact absurd ⟨g1, g2⟩ h1
  · rcases h' with ⟨g1, _⟩ | ⟨g1, g2, b1, b4, b5, g3⟩
    · exact absurd ⟨h1, h2⟩ g1
    · obtain ⟨e1, e2⟩ := h3.one g3
      exact ⟨a1.trans b1.symm, e1, e2, a4.trans b4.symm, a5.trans b5.symm⟩

set_option maxHeartbeats 1000000 in
theorem eqAct_same (n : Int) (k t p : ByteArray) (w : World) :
    Calls Tryd.prog 12 #[.agg #[.int .i64 n, .string k, .string t, .string p], .agg #[.int .i64 n, .string k, .string t, .string p]] w
      fun e w' => e = .returned (.bool true) ∧ Below w.heap.size w w' := by
  go_enter Tryd.func12, Tryd.ntmps12
  go_wp2
  go_ret
  exact ⟨rfl, ((Below.refl _ _).alloc (Nat.le_refl _) _).alloc (by simp) _⟩

set_option maxRecDepth 20000 in
set_option maxHeartbeats 16000000 in
theorem law_uncovered (tv sv vv : Value) (Ts : List Tm) (Rs : List Ru) (r : Ru) (w : World) (hT : TmsAt 0 w tv Ts) (hR : RusAt 0 w sv Rs) (hv : IntsIn 0 w vv r.vb) (hz : RuSize r) (htab : Lib.TabIs Tryd.prog w "internal/strconv.uint64pow10" .u64 Lib.pow10Tab) :
    Calls Tryd.prog 3 #[tv, sv, .agg #[vv, .string r.kd, .string r.tm, .string r.pf]] w fun e w' => e = .returned (.bool true) ∧ Below w.heap.size w w' := by
  have HTB := hide (Lib.tabBelow_of_tabIs htab)
  clear htab
  have HT := hide hT
  have HR := hide hR
  have HV := hide hv
  have HZ := hide hz
  obtain ⟨ta, tcap, rfl⟩ := hT.form
  obtain ⟨sa, scap, rfl⟩ := hR.form
  obtain ⟨a, cap, rfl⟩ := hv.form
  clear hT hR hv hz
  go_enter Tryd.func3, Tryd.ntmps3
  go_wp2_with fail
  generalize hWa : w.alloc _ = Wa
  have HBa : Hid (Below w.heap.size w Wa) := by rw [← hWa]; exact one_al _ _
  have FA : Hid (Box Wa w.heap.size #[.slice a r.vb.length cap, .string r.kd, .string r.tm, .string r.pf]) := by rw [← hWa]; exact Box.new _ _ _ _ rfl
  clear hWa
  refine (szTms_any 0 _ Ts _ _ (by omega) (by omega) (HT.out.below HBa.out)).mono ?_
  rintro e w1 ⟨q, rfl, hb1, hr0, hr1, hr2⟩
  have HB1 : Hid (Below w.heap.size w w1) := bt HBa.out hb1
  replace FA := hide (FA.out.on hb1)
  have HQ := hide hr2
  clear hb1 hr2 HBa
  by_cases hneg : q < 0
  · go_wp2
    go_ret
    exact ⟨rfl, HB1.out⟩
  have hTm : Hid (Ts.length ≤ 1048576) := by have := HQ.out (by omega); unfold Hid; omega
  clear HQ hr0
  go_wp2_with fail
  refine (szRus_any 0 _ Rs _ _ (by omega) (by omega) (HR.out.below HB1.out)).mono ?_
  rintro e w2 ⟨q2, rfl, hb2, hr0, hr2, hr3⟩
  have HB2 : Hid (Below w.heap.size w w2) := bt HB1.out hb2
  replace FA := hide (FA.out.on hb2)
  have HQ := hide hr3
  clear hb2 hr3 HB1
  by_cases hneg2 : q2 < 0
  · go_wp2
    go_ret
    exact ⟨rfl, HB2.out⟩
  have hRm : Hid (RusSmall Rs) := HQ.out (by omega)
  clear HQ hr0 hneg
  have g0 := FA.out.cell
  have gl := FA.out.lt
  go_wp2_with fail
  clear g0 gl
  refine (szRule_any 0 r _ _ _ (by omega) (by omega) (HV.out.below HB2.out) HZ.out).mono ?_
  rintro e w3 ⟨q3, rfl, hb3, hr0, hr4, hr5⟩
  have HB3 : Hid (Below w.heap.size w w3) := bt HB2.out hb3
  replace FA := hide (FA.out.on hb3)
  have HQ := hide hr5
  clear hb3 hr5 HB2
  by_cases hneg3 : q3 < 0
  · go_wp2
    go_ret
    exact ⟨rfl, HB3.out⟩
  have hVm : Hid (r.vb.length ≤ 1048576) := by have := HQ.out (by omega); unfold Hid; omega
  clear HQ hneg2 hr0 hr1 hr2 hr4
  go_wp2
  clear hneg3
  have HT3 := hide (HT.out.below HB3.out)
  have HR3 := hide (HR.out.below HB3.out)
  have HV3 := hide (HV.out.below HB3.out)
  go_cut [8, 9] (fun p q wc => ∃ β n k t pf ok, p = .pointer (some ⟨β, 0, none⟩) ∧ q = .bool ok ∧ w3.heap.size ≤ β ∧ UncA Ts Rs r n k t pf ok ∧ Box wc β #[.int .i64 n, .string k, .string t, .string pf] ∧ Below w3.heap.size w3 wc)
  case first =>
    have hlt2 : w.heap.size < w3.heap.size := FA.out.lt
    go_region_held3 (Held1 w3 w.heap.size #[.slice a r.vb.length cap, .string r.kd, .string r.tm, .string r.pf])
      (first
        | (with_reducible exact Held1.drew FA.out)
        | (with_reducible exact Held1.aldrew FA.out _)
        | (with_reducible exact Held1.ald FA.out HD7 _)
        | (with_reducible exact Held1.on (by assumption) (by assumption))
        | (with_reducible (refine Held1.al ?_ _; assumption))
        | (refine Held1.set ?_ (by simp only []; omega) _
           refine Held1.set ?_ (by simp only []; omega) _
           refine Held1.set ?_ (by simp only []; omega) _
           refine Held1.set ?_ (by simp only []; omega) _
           with_reducible assumption))
      (first
        | (go_at_call 8
           first
             | refine (toTms_any 0 _ Ts w3.drew (HT3.out.below ((Below.refl _ _).drew)) hTm.out).mono ?_
             | refine (toTms_any 0 _ Ts (w3.alloc _).drew (HT3.out.below ((one_al w3 _).drew)) hTm.out).mono ?_
           rintro e w4 ⟨v4, rfl, hb4, hs4⟩
           obtain ⟨a4, cap4, rfl⟩ := hs4.form
           first
             | (have HD4 : Hid (Below w3.heap.size w3 w4) := by with_reducible exact hide (drew_on hb4))
             | (have HD4 : Hid (Below w3.heap.size w3 w4) := by with_reducible exact hide (al_drew_on hb4))
           have hz4 : w3.heap.size ≤ w4.heap.size := HD4.out.size
           first
             | (have HX4 : Hid (Box w4 w3.heap.size #[.int .i64 0, .string ⟨#[]⟩, .string ⟨#[]⟩, .string ⟨#[]⟩]) := by with_reducible exact hide (al_box_on hb4))
             | skip
           have HS4 := hide hs4
           clear hs4)
        | (go_at_call 9
           refine (toRus_any 0 _ Rs _ (HR3.out.below (by first | exact HD4.out | exact bt HD4.out (one_al _ _))) hRm.out).mono ?_
           rintro e w5 ⟨v5, rfl, hb5, hs5⟩
           obtain ⟨a5, cap5, rfl⟩ := hs5.form
           first
             | (have HD5 : Hid (Below w3.heap.size w3 w5) := by with_reducible exact hide (bt HD4.out hb5))
             | (have HD5 : Hid (Below w3.heap.size w3 w5) := by with_reducible exact hide (bt HD4.out (below_al hb5)))
           have hz5 : w3.heap.size ≤ w5.heap.size := HD5.out.size
           first
             | (have HX5 := hide (HX4.out.on hb5))
             | (have HX5 : Hid (Box w5 w4.heap.size #[.int .i64 0, .string ⟨#[]⟩, .string ⟨#[]⟩, .string ⟨#[]⟩]) := by with_reducible exact hide (box_al hb5))
             | skip
           have HS45 := hide (HS4.out.below (by first | exact hb5 | exact below_al hb5))
           have HS5 := hide hs5
           clear hs5)
        | (go_at_call 10
           refine (toRule_any 0 r _ _ (HV3.out.below (by first | exact HD5.out | exact bt HD5.out (one_al _ _))) hVm.out).mono ?_
           rintro e w6 ⟨v6, rfl, hb6, hs6⟩
           obtain ⟨a6, cap6, rfl⟩ := hs6.form
           first
             | (have HD6 : Hid (Below w3.heap.size w3 w6) := by with_reducible exact hide (bt HD5.out hb6))
             | (have HD6 : Hid (Below w3.heap.size w3 w6) := by with_reducible exact hide (bt HD5.out (below_al hb6)))
           have hz6 : w3.heap.size ≤ w6.heap.size := HD6.out.size
           first
             | (have HX6 := hide (HX5.out.on hb6))
             | (have HX6 : Hid (Box w6 w5.heap.size #[.int .i64 0, .string ⟨#[]⟩, .string ⟨#[]⟩, .string ⟨#[]⟩]) := by with_reducible exact hide (box_al hb6))
             | skip
           have HS46 := hide (HS45.out.below (by first | exact hb6 | exact below_al hb6))
           have HS56 := hide (HS5.out.below (by first | exact hb6 | exact below_al hb6))
           have HS6 := hide hs6
           clear hs6)
        | (go_at_call 7
           refine (specUncovered_any _ _ _ _ _ _ Ts Rs r _ (by first | exact HS46.out | exact HS46.out.below (one_al _ _)) (by first | exact HS56.out | exact HS56.out.below (one_al _ _)) (by first | exact HS6.out | exact HS6.out.below (one_al _ _)) HZ.out hTm.out hRm.out.1).mono ?_
           rintro e w7 ⟨hu, hb7⟩
           obtain ⟨n, k, t, pf, ok, rfl, huA⟩ := hu.parts
           have HU := hide huA
           first
             | (have HD7 : Hid (Below w3.heap.size w3 w7) := by with_reducible exact hide (bt HD6.out hb7))
             | (have HD7 : Hid (Below w3.heap.size w3 w7) := by with_reducible exact hide (bt HD6.out (below_al hb7)))
           have hz7 : w3.heap.size ≤ w7.heap.size := HD7.out.size
           first
             | (have HX7 := hide (HX6.out.on hb7))
             | (have HX7 : Hid (Box w7 w6.heap.size #[.int .i64 0, .string ⟨#[]⟩, .string ⟨#[]⟩, .string ⟨#[]⟩]) := by with_reducible exact hide (box_al hb7))
             | skip
           try (have rr := HX7.out.cell
                have rf := HX7.out.free
                have rl := HX7.out.lt
                have z0 : _ = some (Value.int .i64 0) := rr 0
                have z1 : _ = some (Value.string ⟨#[]⟩) := rr 1
                have z2 : _ = some (Value.string ⟨#[]⟩) := rr 2
                have z3 : _ = some (Value.string ⟨#[]⟩) := rr 3
                clear rr)
           clear hu huA))
    all_goals (go_wp2_with fail)
    all_goals go_meet
    all_goals first
      | exact ⟨_, n, k, t, pf, ok, rfl, rfl, HD7.out.size, HU.out, Box.new w7 _ _ _ rfl, bt HD7.out (one_al _ _)⟩
      | exact ⟨_, n, k, t, pf, ok, rfl, rfl, hz6, HU.out, HX7.out.put4 _ _ _ _, Below.set4 HD7.out hz6 _ _ _ _⟩
      | exact ⟨_, n, k, t, pf, ok, rfl, rfl, hz5, HU.out, HX7.out.put4 _ _ _ _, Below.set4 HD7.out hz5 _ _ _ _⟩
      | exact ⟨_, n, k, t, pf, ok, rfl, rfl, hz4, HU.out, HX7.out.put4 _ _ _ _, Below.set4 HD7.out hz4 _ _ _ _⟩
      | exact ⟨_, n, k, t, pf, ok, rfl, rfl, Nat.le_refl _, HU.out, HX7.out.put4 _ _ _ _, Below.set4 HD7.out (Nat.le_refl _) _ _ _ _⟩
  case rest =>
    obtain ⟨γ, n, k, t, pf, ok, rfl, rfl, hγ, hu, hbox, hbc⟩ := hcut
    have HU := hide hu
    have FW := hide hbox
    replace FA := hide (FA.out.on hbc)
    have HB7 : Hid (Below w.heap.size w wc) := bt HB3.out hbc
    clear HB3 HT3 HR3 HV3 hu hbox hbc hγ
    go_wp2_with fail
    refine (toTms_any 0 _ Ts _ (HT.out.below HB7.out) hTm.out).mono ?_
    rintro e w8 ⟨v8, rfl, hb8, hs8⟩
    obtain ⟨a8, cap8, rfl⟩ := hs8.form
    have HB8 : Hid (Below w.heap.size w w8) := bt HB7.out hb8
    have HS8 := hide hs8
    replace FA := hide (FA.out.on hb8)
    replace FW := hide (FW.out.on hb8)
    clear hb8 hs8 HB7
    go_wp2_with fail
    refine (toRus_any 0 _ Rs _ (HR.out.below HB8.out) hRm.out).mono ?_
    rintro e wr ⟨vr, rfl, hbr, hsr⟩
    obtain ⟨ar, capr, rfl⟩ := hsr.form
    have HBr : Hid (Below w.heap.size w wr) := bt HB8.out hbr
    have HSr := hide hsr
    replace HS8 := hide (HS8.out.below hbr)
    replace FA := hide (FA.out.on hbr)
    replace FW := hide (FW.out.on hbr)
    clear hbr hsr HB8
    have g0 := FA.out.cell
    have gl := FA.out.lt
    go_wp2_with fail
    clear g0 gl
    refine (toRule_any 0 r _ _ (HV.out.below HBr.out) hVm.out).mono ?_
    rintro e w9 ⟨v9, rfl, hb9, hs9⟩
    obtain ⟨a9, cap9, rfl⟩ := hs9.form
    have HB9 : Hid (Below w.heap.size w w9) := bt HBr.out hb9
    have HS9 := hide hs9
    replace HS8 := hide (HS8.out.below hb9)
    replace HSr := hide (HSr.out.below hb9)
    replace FA := hide (FA.out.on hb9)
    replace FW := hide (FW.out.on hb9)
    clear hb9 hs9 HBr
    go_wp2_with fail
    generalize hWx : w9.alloc _ = Wx
    have hbx : Below w9.heap.size w9 Wx := by rw [← hWx]; exact one_al _ _
    have FX : Hid (Box Wx w9.heap.size #[.slice a9 r.vb.length cap9, .string r.kd, .string r.tm, .string r.pf]) := by rw [← hWx]; exact Box.new _ _ _ _ rfl
    have HBx : Hid (Below w.heap.size w Wx) := bt HB9.out hbx
    replace FA := hide (FA.out.on hbx)
    replace FW := hide (FW.out.on hbx)
    replace HS8 := hide (HS8.out.below hbx)
    replace HSr := hide (HSr.out.below hbx)
    replace HS9 := hide (HS9.out.below hbx)
    clear hWx hbx HB9
    generalize hbeta : w9.heap.size = β at *
    refine (implUncovered_any _ _ _ _ _ _ Ts Rs r _ HS8.out HSr.out HS9.out HZ.out hTm.out hRm.out.1 (Lib.tabBelow_of_tabIs (HTB.out.on HBx.out).here)).mono ?_
    rintro e wb ⟨hu2, hbb⟩
    obtain ⟨n', k', t', pf', ok', rfl, huB⟩ := hu2.parts
    obtain ⟨e1, e2, e3, e4, e5⟩ := HU.out.one huB
    rw [← e1, ← e2, ← e3, ← e4, ← e5]
    clear e1 e2 e3 e4 e5 huB
    replace FA := hide (FA.out.on hbb)
    replace FX := hide (FX.out.on hbb)
    replace FW := hide (FW.out.on hbb)
    have HBb : Hid (Below w.heap.size w wb) := bt HBx.out hbb
    replace HS8 := hide (HS8.out.below hbb)
    replace HSr := hide (HSr.out.below hbb)
    replace HS9 := hide (HS9.out.below hbb)
    clear HBx hbb hu2 HU
    have gw := FW.out.cell
    have gwl := FW.out.lt
    go_wp2_with fail
    generalize hWg : wb.alloc _ = Wg
    have hbg : Below wb.heap.size wb Wg := by rw [← hWg]; exact one_al _ _
    replace FA := hide (FA.out.on hbg)
    replace FX := hide (FX.out.on hbg)
    have HBg : Hid (Below w.heap.size w Wg) := bt HBb.out hbg
    replace HS8 := hide (HS8.out.below hbg)
    replace HSr := hide (HSr.out.below hbg)
    replace HS9 := hide (HS9.out.below hbg)
    clear hWg hbg HBb gw gwl FW
    refine (eqAct_same n k t pf _).mono ?_
    rintro e wj ⟨rfl, hbj⟩
    replace FA := hide (FA.out.on hbj)
    replace FX := hide (FX.out.on hbj)
    have HBb : Hid (Below w.heap.size w wj) := bt HBg.out hbj
    replace HS8 := hide (HS8.out.below hbj)
    replace HSr := hide (HSr.out.below hbj)
    replace HS9 := hide (HS9.out.below hbj)
    clear HBg hbj
    go_wp2_with fail
    refine (toTms_any 0 _ Ts _ (HT.out.below HBb.out) hTm.out).mono ?_
    rintro e wc ⟨vc, rfl, hbc, hsc⟩
    have HBc : Hid (Below w.heap.size w wc) := bt HBb.out hbc
    have HSc := hide hsc
    replace HS8 := hide (HS8.out.below hbc)
    replace HSr := hide (HSr.out.below hbc)
    replace HS9 := hide (HS9.out.below hbc)
    replace FA := hide (FA.out.on hbc)
    replace FX := hide (FX.out.on hbc)
    clear hbc hsc HBb
    go_wp2_with fail
    refine (eqTms_same _ _ _ _ Ts _ HS8.out HSc.out).mono ?_
    rintro e wd ⟨rfl, hbd⟩
    have HBd : Hid (Below w.heap.size w wd) := bt HBc.out hbd
    replace HSr := hide (HSr.out.below hbd)
    replace HS9 := hide (HS9.out.below hbd)
    replace FA := hide (FA.out.on hbd)
    replace FX := hide (FX.out.on hbd)
    clear hbd HBc HS8 HSc
    go_wp2_with fail
    refine (toRus_any 0 _ Rs _ (HR.out.below HBd.out) hRm.out).mono ?_
    rintro e we ⟨ve, rfl, hbe, hse⟩
    have HBe : Hid (Below w.heap.size w we) := bt HBd.out hbe
    have HSe := hide hse
    replace HSr := hide (HSr.out.below hbe)
    replace HS9 := hide (HS9.out.below hbe)
    replace FA := hide (FA.out.on hbe)
    replace FX := hide (FX.out.on hbe)
    clear hbe hse HBd
    go_wp2_with fail
    refine (eqRus_same _ _ _ _ Rs _ HSr.out HSe.out).mono ?_
    rintro e wf ⟨rfl, hbf⟩
    have HBf : Hid (Below w.heap.size w wf) := bt HBe.out hbf
    replace HS9 := hide (HS9.out.below hbf)
    replace FA := hide (FA.out.on hbf)
    replace FX := hide (FX.out.on hbf)
    clear hbf HBe HSr HSe
    have HVf := hide (HV.out.below HBf.out)
    go_wp2
    go_region_held3 (Held2 wf β #[.slice a9 r.vb.length cap9, .string r.kd, .string r.tm, .string r.pf] w.heap.size #[.slice a r.vb.length cap, .string r.kd, .string r.tm, .string r.pf])
      (first
        | (with_reducible exact Held2.drew FX.out FA.out)
        | (with_reducible exact Held2.on (by assumption) (by assumption)))
      (first
        | (go_at_call 10
           refine (toRule_any 0 r _ _ (HVf.out.below ((Below.refl _ _).drew)) hVm.out).mono ?_
           rintro e wg ⟨vg, rfl, hbg, hsg⟩
           obtain ⟨ag, capg, rfl⟩ := hsg.form
           have HC8 : Hid (Below wf.heap.size wf wg) := bt ((Below.refl _ _).drew) hbg
           have HSg := hide hsg
           clear hsg)
        | (go_at_call 15
           refine (eqRule_same _ _ r _ _ _ (HS9.out.below HC8.out) HSg.out).mono ?_
           rintro e wh ⟨rfl, hbh⟩
           have HC9 : Hid (Below wf.heap.size wf wh) := bt HC8.out hbh))
    go_wp2
    go_ret
    exact ⟨rfl, bt HBf.out HC9.out⟩
end Go.Proofs.YtfajekibnjdlmabDoor
