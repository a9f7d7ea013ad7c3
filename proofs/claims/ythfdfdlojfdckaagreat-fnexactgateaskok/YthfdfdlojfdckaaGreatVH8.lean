import Derived.Test.YthfdfdlojfdckaaGreatVH7
import Derived.Test.YthfdfdlojfdckaaGreatVGG
import Derived.Test.YthfdfdlojfdckaaGreatVBLP
import Derived.Test.YthfdfdlojfdckaaGreatVM5R
import Derived.Test.YthfdfdlojfdckaaGreatVP1
import Derived.Test.YthfdfdlojfdckaaGreatVHB
import Derived.Test.YthfdfdlojfdckaaGreatVDA
import Derived.Test.YthfdfdlojfdckaaGreatVMM
import Derived.Test.YthfdfdlojfdckaaGreatVA1
import Derived.Test.YthfdfdlojfdckaaGreatVBBL
import Derived.Test.YthfdfdlojfdckaaGreatVB1
import Derived.Test.YthfdfdlojfdckaaGreatVTA
import Derived.Test.YthfdfdlojfdckaaGreatVLA
import Derived.Test.YthfdfdlojfdckaaGreatVBOG
namespace Go.Proofs.YthfdfdlojfdckaaGreat
open Go.RowKit Go.Deep Go.Maps

def ptrip (Ps : List Pu) : List Tri := Ps.map fun p => (p.tm, p.re, p.am)
theorem ksum_out (Ps : List Pu) (t r : ByteArray) : ksum (ptrip Ps) t r = outZ Ps t r := by
  unfold ksum ptrip outZ
  rw [List.map_map]
  congr 1
  refine List.map_congr_left fun p _ => ?_
  unfold outOne
  simp only [Function.comp]
  by_cases h : p.tm = t ∧ p.re = r
  · obtain ⟨h1, h2⟩ := h
    rw [if_pos ⟨h1, h2⟩, if_pos (by rw [Bool.and_eq_true]; exact ⟨bytes_eq.2 h1, bytes_eq.2 h2⟩)]
  · rw [if_neg h, if_neg (fun hb => h (by rw [Bool.and_eq_true] at hb; exact ⟨bytes_eq.1 hb.1, bytes_eq.1 hb.2⟩))]
theorem PusAt.sizes {lo : Nat} {w : World} {v : Value} {Ps : List Pu} (h : PusAt lo w v Ps) : ∀ p ∈ Ps, PuSize p := by
  intro p hp
  obtain ⟨i, hi, rfl⟩ := List.getElem_of_mem hp
  rcases h with ⟨_, _, _, rfl⟩ | ⟨b, off, cap, h1, h2, h3, h4, h5, h6, h7⟩
  · simp at hi
  · exact (h7 i hi).1

set_option maxRecDepth 100000 in
set_option maxHeartbeats 4000000 in
theorem drawn_any (lo : Nat) (v : Value) (Ps : List Pu) (w : World) (hv : PusAt lo w v Ps) (hn : Ps.length ≤ 1048576) :
    Calls Tryz.prog 161 #[v] w
      fun e w' => e = .returned (.map (some w.heap.size)) ∧ Below w.heap.size w w' ∧ ∃ D : DataW Unit, w'.ownsMap Tryz.prog 232 (plainElem Tryz.prog 3) w.heap.size Ps.length D ∧ SumOk (ptrip Ps) D := by
  have HV := hide hv
  obtain ⟨a, cap, rfl⟩ := hv.form
  clear hv
  have hmm := @run_makeMap Tryz.prog
  go_enter Tryz.func161, Tryz.ntmps161
  go_wp2
  clear hmm
  go_loopw [9] (fun i wr => ∃ k : Nat, i = .int .i64 k ∧ k ≤ Ps.length ∧ Below w.heap.size w wr ∧ ∃ D : DataW Unit, wr.ownsMap Tryz.prog 232 (plainElem Tryz.prog 3) w.heap.size k D ∧ SumOk (ptrip (Ps.take k)) D) (fun i _ => Ps.length - (intOf i).toNat)
  case atStart => exact ⟨0, rfl, Nat.zero_le _, one_al _ _, .map [], World.ownsMap_made _ _ _ _, SumOk.start⟩
  case round =>
    obtain ⟨k, rfl, hk, hb, D, ho, hsum⟩ := hrel
    have HB := hide hb
    have HSUM := hide hsum
    clear hb hsum
    by_cases hlt : k < Ps.length
    · obtain ⟨b, off, rfl, hbw, -, hc⟩ := HV.out.full' (by omega)
      obtain ⟨hs, hcell⟩ := hc k hlt
      obtain ⟨c0, c1, c2, c3, c4⟩ := hcell.below HB.out hbw
      have HZ := hide hs
      have HT : Hid (ptrip (Ps.take (k + 1)) = ptrip (Ps.take k) ++ [(Ps[k].tm, Ps[k].re, Ps[k].am)]) := by unfold Hid ptrip; rw [List.take_succ_eq_append_getElem hlt, List.map_append]; rfl
      have hol := ho.lt
      obtain ⟨Wb, hWb, HYb, HBb, HOb⟩ : ∃ Wb, Wb = wr.alloc (.cells #[.string Ps[k].dr, .string Ps[k].tm, .string Ps[k].re, .int .i64 Ps[k].am, .int .i64 Ps[k].un] 142) ∧ Hid (Box Wb wr.heap.size #[.string Ps[k].dr, .string Ps[k].tm, .string Ps[k].re, .int .i64 Ps[k].am, .int .i64 Ps[k].un]) ∧ Hid (Below w.heap.size w Wb) ∧ Hid (Wb.ownsMap Tryz.prog 232 (plainElem Tryz.prog 3) w.heap.size k D) := by
        refine ⟨_, rfl, ?_, ?_, ?_⟩
        · exact Box.new _ _ _ _ rfl
        · exact HB.out.trans ((one_al _ _).mono HB.out.size)
        · exact ho.alloc _
      obtain ⟨c, v0, st, w1, hent, hat, hwc, hl0, hl1, hg1, hs1, hst⟩ := entry_own accLaw Tryz.underlying227 Tryz.underlying3 accZero HOb.out.drew (by unfold maxLen; omega) (accTwo.mk' hs.s1 hs.s2)
      have ew : IntKind.i64.wrap (c + Ps[k].am) = wrap64 (c + Ps[k].am) := IntWalk.i64_left _
      obtain ⟨w2, hrun2, ho2, hg2, hs2⟩ := hst (IntKind.i64.wrap (c + Ps[k].am)) (by rw [ew]; exact wrap64_wf _)
      rw [ew] at ho2
      have HO2 := hide ho2
      have HG2 := hide hg2
      have HAT := hide hat
      have y1 := HYb.out.cell 1
      have y2 := HYb.out.cell 2
      have y3 := HYb.out.cell 3
      simp at y1 y2 y3
      simp only [goInt] at hent hrun2
      clear ew hst ho2 hg2 hg1 hat ho hc hcell hs hs1 hs2 hwc
      go_wp2
      rw [← hWb]
      clear hWb
      go_region
      all_goals go_wp2
      all_goals go_roundw
      all_goals first
        | (case rel => exact ⟨k + 1, by go_num, by omega, ranges_kept_below HBb.out.drew HG2.out (Nat.le_refl _), _, HO2.out, by rw [HT.out]; exact HSUM.out.step HZ.out.s1 HZ.out.s2 HAT.out _⟩)
        | (case measure => simp [intOf]; omega)
    · have he : k = Ps.length := by omega
      subst he
      have HT : Hid (ptrip (Ps.take Ps.length) = ptrip Ps) := by unfold Hid; rw [List.take_length]
      have HO := hide ho
      clear ho
      go_wp2
      go_ret
      exact ⟨rfl, HB.out, D, HO.out, HT.out ▸ HSUM.out⟩

/-- what is asked of a ledger's sum -/
def sumOne (Ss : List Sh) (Ts : List Tm) (B : Bk) (g : Le) : Bool := decide (wrap64 (usedZ Ss Ts B.os g.tm g.re + outZ B.ps g.tm g.re + g.fr) = g.mo)
def sumsB (Ss : List Sh) (Ts : List Tm) (B : Bk) : Bool := B.ls.all (sumOne Ss Ts B)

section
variable (lo : Nat) (sv mv tv ov gv lv pv : Value) (Ss : List Sh) (Ms : List Md) (Ts : List Tm) (B : Bk) (w : World)

set_option maxRecDepth 100000 in
set_option maxHeartbeats 4000000 in
theorem implSums_any (hl : LawAt lo w sv mv tv Ss Ms Ts) (h : BookAt lo w ov gv lv pv B) (hn : BookSmall B) :
    Calls Tryz.prog 123 #[.agg #[sv, mv, tv], .agg #[.int .i64 B.now, .int .i64 B.tick, .int .i64 B.given, ov, gv, lv, pv]] w fun e w' => e = .returned (.bool (sumsB Ss Ts B)) ∧ Below w.heap.size w w' := by
  have HL := hide hl
  have HK := hide h
  have HTR := hide (trip_ok hl.shs h.obs.sizes)
  have hpl : B.ps.length ≤ 1048576 := hn.2.2.2.1
  have hll : B.ls.length ≤ 1048576 := hn.2.2.1.1
  have HOS : Hid (ObsSmall B.os) := hn.1
  obtain ⟨sa, sc, rfl⟩ := hl.shs.form
  obtain ⟨ma, mc, rfl⟩ := hl.mds.form
  obtain ⟨ta, tc, rfl⟩ := hl.tms.form
  obtain ⟨a0, k0, rfl⟩ := h.obs.form
  obtain ⟨a1, k1, rfl⟩ := h.grs.form
  obtain ⟨a2, k2, rfl⟩ := h.les.form
  obtain ⟨a3, k3, rfl⟩ := h.pus.form
  clear h hl hn
  go_enter Tryz.func123, Tryz.ntmps123
  go_wp2
  generalize hWa : (World.alloc (w.alloc _) _) = Wa
  have HB : Hid (Below w.heap.size w Wa) := by rw [← hWa]; exact (one_al w _).alloc (by simp) _
  have HX : Hid (Box Wa w.heap.size #[.slice sa Ss.length sc, .slice ma Ms.length mc, .slice ta Ts.length tc]) := by rw [← hWa]; exact (Box.new _ _ _ _ rfl).on (one_al _ _)
  have HY : Hid (Box Wa (w.heap.size + 1) #[.int .i64 B.now, .int .i64 B.tick, .int .i64 B.given, .slice a0 B.os.length k0, .slice a1 B.gs.length k1, .slice a2 B.ls.length k2, .slice a3 B.ps.length k3]) := by rw [← hWa]; exact Box.new _ _ _ _ (by simp)
  clear hWa
  have HD : Hid (Below w.heap.size w Wa.drew) := HB.out.drew
  go_region_held3 (Held2 Wa w.heap.size #[.slice sa Ss.length sc, .slice ma Ms.length mc, .slice ta Ts.length tc] (w.heap.size + 1) #[.int .i64 B.now, .int .i64 B.tick, .int .i64 B.given, .slice a0 B.os.length k0, .slice a1 B.gs.length k1, .slice a2 B.ls.length k2, .slice a3 B.ps.length k3])
    (first
      | (with_reducible exact Held2.drew HX.out HY.out)
      | (with_reducible exact Held2.on (by assumption) (by assumption)))
    (first
      | (go_at_call 160
         refine (weighed_any lo _ _ Ss B.os _ (HL.out.below HD.out).shs (HK.out.below HD.out).obs HOS.out).mono ?_
         rintro e w1 ⟨rfl, hb1, D, ho, hsum⟩
         have HC1 : Hid (Below w.heap.size w w1) := HD.out.trans (hb1.mono HD.out.size)
         have HOW : Hid (w1.ownsMap Tryz.prog 232 (plainElem Tryz.prog 3) Wa.heap.size (wtrip Ss B.os).length D) := ho
         have HSU := hide hsum
         clear ho hsum)
      | (go_at_call 161
         refine (drawn_any lo _ B.ps _ (HK.out.below HC1.out).pus hpl).mono ?_
         rintro e w2 ⟨rfl, hb2, D2, ho2, hsum2⟩
         have HC2 : Hid (Below w.heap.size w w2) := HC1.out.trans (hb2.mono HC1.out.size)
         have HOW2 := hide (HOW.out.kept (grown_of_below' hb2) (by simp))
         have HOD := hide ho2
         have HSD := hide hsum2
         clear ho2 hsum2))
  have HCa : Hid (Below Wa.heap.size Wa w2) := ((Below.refl _ _).drew.trans hb1).trans (hb2.mono (((Below.refl _ _).drew.trans hb1 : Below Wa.heap.size Wa w1)).size)
  have HX2 := hide (HX.out.on HCa.out)
  have HY2 := hide (HY.out.on HCa.out)
  clear HCa hb1 hb2 HOW HC1 HD HB HX HY
  generalize Wa.heap.size = ba at *
  generalize w1.heap.size = bd at *
  have y5 := HY2.out.cell 5
  simp at y5
  go_wp2
  clear y5
  go_loopw [21] (fun i wr => ∃ k : Nat, i = .int .i64 k ∧ k ≤ B.ls.length ∧ Below w.heap.size w wr ∧ Box wr w.heap.size #[.slice sa Ss.length sc, .slice ma Ms.length mc, .slice ta Ts.length tc] ∧ wr.ownsMap Tryz.prog 232 (plainElem Tryz.prog 3) ba (wtrip Ss B.os).length D ∧ wr.ownsMap Tryz.prog 232 (plainElem Tryz.prog 3) bd B.ps.length D2 ∧ ∀ j (h : j < B.ls.length), j < k → sumOne Ss Ts B B.ls[j] = true) (fun i _ => B.ls.length - (intOf i).toNat)
  case atStart => exact ⟨0, rfl, Nat.zero_le _, HC2.out, HX2.out, HOW2.out, HOD.out, fun j _ h => by omega⟩
  case round =>
    obtain ⟨k, rfl, hk, hb, hx, hoa, hod, hall⟩ := hrel
    have HBr := hide hb
    have HXr := hide hx
    have HOA := hide hoa
    have HODr := hide hod
    have HA := hide hall
    clear hb hx hoa hod hall
    by_cases hlt : k < B.ls.length
    · obtain ⟨b, off, rfl, hbw, -, hc⟩ := HK.out.les.full' (by omega)
      obtain ⟨hs, hcell⟩ := hc k hlt
      obtain ⟨c0, c1, c2, c3⟩ := hcell.below HBr.out hbw
      have HZ := hide hs
      have HQ : Hid (sumOne Ss Ts B B.ls[k] = decide (wrap64 (usedZ Ss Ts B.os B.ls[k].tm B.ls[k].re + outZ B.ps B.ls[k].tm B.ls[k].re + B.ls[k].fr) = B.ls[k].mo)) := rfl
      have HUZ := hide (usedZ_trip Ss Ts B.ls[k].tm B.ls[k].re B.os)
      have x2 := HXr.out.cell 2
      simp at x2
      have xlt := HXr.out.lt
      have x2 : ∀ o, (wr.alloc o).cell? ⟨w.heap.size, 2, none⟩ = some (.slice ta Ts.length tc) := fun o => (cell_alloc_lt _ _ _ _ xlt).trans x2
      clear hc hcell hs xlt
      go_wp2_with fail
      generalize hWb : wr.alloc _ = Wb
      have HBb : Hid (Below w.heap.size w Wb) := by rw [← hWb]; exact HBr.out.trans ((one_al _ _).mono HBr.out.size)
      have HXb : Hid (Box Wb w.heap.size #[.slice sa Ss.length sc, .slice ma Ms.length mc, .slice ta Ts.length tc]) := by rw [← hWb]; exact HXr.out.on (one_al _ _)
      have HYb : Hid (Box Wb wr.heap.size #[.string B.ls[k].tm, .string B.ls[k].re, .int .i64 B.ls[k].mo, .int .i64 B.ls[k].fr]) := by rw [← hWb]; exact Box.new _ _ _ _ rfl
      have HOA1 : Hid (Wb.ownsMap Tryz.prog 232 (plainElem Tryz.prog 3) ba (wtrip Ss B.os).length D) := by rw [← hWb]; exact HOA.out.alloc _
      have HOD1 : Hid (Wb.ownsMap Tryz.prog 232 (plainElem Tryz.prog 3) bd B.ps.length D2) := by rw [← hWb]; exact HODr.out.alloc _
      clear hWb x2 HOA HODr
      refine (sumsUnder_any lo _ Ts _ _ _ _ (HL.out.below HBb.out).tms HOA1.out HSU.out HTR.out).mono ?_
      rintro e w3 ⟨rfl, hb3⟩
      have HB3 : Hid (Below w.heap.size w w3) := HBb.out.trans (hb3.mono HBb.out.size)
      have HX3 := hide (HXb.out.on hb3)
      have HY3 := hide (HYb.out.on hb3)
      have HOA3 := hide (HOA1.out.kept (grown_of_below' hb3) (by simp))
      have HOD3 := hide (HOD1.out.kept (grown_of_below' hb3) (by simp))
      have hlk : ∀ n, (Instr.lookup 227 (.map (some bd)) (.agg #[.string B.ls[k].tm, .string B.ls[k].re]) false).run Tryz.prog (w3.drewN n) = .ok (.int .i64 (wrap64 (outZ B.ps B.ls[k].tm B.ls[k].re))) (w3.drewN n) := fun n => by
        obtain ⟨c, hl, hat, -⟩ := (owns_same HOD3.out (w' := w3.drewN n) (by simp)).lookup_int accKeyed Tryz.underlying227 Tryz.underlying3 (accZero _) (accTwo.mk' HZ.out.s0 HZ.out.s1)
        rw [HSD.out.sums _ _ HZ.out.s0 HZ.out.s1, ksum_out] at hat
        injection hat with hat
        injection hat with _ hat
        rw [hat]
        exact hl
      have y0 := HY3.out.cell 0
      have y1 := HY3.out.cell 1
      have y2 := HY3.out.cell 2
      have y3 := HY3.out.cell 3
      simp at y0 y1 y2 y3
      clear hb3 HBb HXb HYb HOA1 HOD1
      have HV : Hid (wrap64 (wrap64 (wrap64 ((wtrip Ss B.os).map (ugood Ts B.ls[k].tm B.ls[k].re)).sum + wrap64 (outZ B.ps B.ls[k].tm B.ls[k].re)) + B.ls[k].fr) = wrap64 (usedZ Ss Ts B.os B.ls[k].tm B.ls[k].re + outZ B.ps B.ls[k].tm B.ls[k].re + B.ls[k].fr)) := by unfold Hid; rw [wrap_add2, wrap_add, HUZ.out]
      go_wp2
      go_quiet (fail)
      have HBn : Hid (Below w.heap.size w (w3.drewN nq)) := below_drewN HB3.out _
      have HXn := hide (HX3.out.on (below_drewN (Below.refl _ _) nq))
      have HOAn := hide (owns_same HOA3.out (w' := w3.drewN nq) (by simp))
      have HODn := hide (owns_same HOD3.out (w' := w3.drewN nq) (by simp))
      clear hlk
      by_cases hq : wrap64 (wrap64 (wrap64 ((wtrip Ss B.os).map (ugood Ts B.ls[k].tm B.ls[k].re)).sum + wrap64 (outZ B.ps B.ls[k].tm B.ls[k].re)) + B.ls[k].fr) = B.ls[k].mo
      · have HT : Hid (sumOne Ss Ts B B.ls[k] = true) := by unfold Hid; rw [HQ.out, ← HV.out]; exact decide_eq_true hq
        have hd : (wrap64 (wrap64 (wrap64 ((wtrip Ss B.os).map (ugood Ts B.ls[k].tm B.ls[k].re)).sum + wrap64 (outZ B.ps B.ls[k].tm B.ls[k].re)) + B.ls[k].fr) != B.ls[k].mo) = false := by simp [hq]
        clear hq
        go_wp2
        go_roundw
        case rel => exact ⟨k + 1, by go_num, by omega, HBn.out, HXn.out, HOAn.out, HODn.out, step_all HA.out hlt HT.out⟩
        case measure => simp [intOf]; omega
      · have HN : Hid (sumsB Ss Ts B = false) := all_no hlt (by rw [HQ.out, ← HV.out]; exact decide_eq_false hq)
        have hd : (wrap64 (wrap64 (wrap64 ((wtrip Ss B.os).map (ugood Ts B.ls[k].tm B.ls[k].re)).sum + wrap64 (outZ B.ps B.ls[k].tm B.ls[k].re)) + B.ls[k].fr) != B.ls[k].mo) = true := by simp [hq]
        clear hq
        go_wp2
        go_ret
        exact ⟨ret_bool HN.out.symm, HBn.out⟩
    · have HT : Hid (sumsB Ss Ts B = true) := all_yes (fun i hi => HA.out i hi (by omega))
      go_wp2
      go_ret
      exact ⟨ret_bool HT.out.symm, HBr.out⟩
end
end Go.Proofs.YthfdfdlojfdckaaGreat

