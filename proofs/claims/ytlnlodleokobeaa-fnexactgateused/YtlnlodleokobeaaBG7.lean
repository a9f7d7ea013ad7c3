import Derived.Test.YtlnlodleokobeaaBG6
import Derived.Test.YtlnlodleokobeaaBG5
import Derived.Test.YtlnlodleokobeaaBG1
import Derived.Deep.RegionHeld3
import Derived.Test.YtlnlodleokobeaaBBO
import Derived.Test.YtlnlodleokobeaaBSA
import Derived.Test.YtlnlodleokobeaaBM5
import Derived.Test.YtlnlodleokobeaaBN15
import Derived.Test.YtlnlodleokobeaaBKA
import Derived.Test.YtlnlodleokobeaaBT4
import Derived.Test.YtlnlodleokobeaaBL1
import Derived.Test.YtlnlodleokobeaaBNA
import Derived.Test.YtlnlodleokobeaaBWB
import Derived.Test.YtlnlodleokobeaaBC2
import Derived.Test.YtlnlodleokobeaaBT1
import Derived.Test.YtlnlodleokobeaaBK1
import Derived.Test.YtlnlodleokobeaaBWA
import Derived.Test.YtlnlodleokobeaaBT2
import Derived.Test.YtlnlodleokobeaaBDA
import Derived.Test.YtlnlodleokobeaaBS13
import Derived.Test.YtlnlodleokobeaaBN12
import Derived.Test.YtlnlodleokobeaaBNZ
import Derived.Test.YtlnlodleokobeaaBG2
import Derived.Test.YtlnlodleokobeaaBN2
import Derived.Test.YtlnlodleokobeaaBN14
import Derived.Test.YtlnlodleokobeaaBM2
namespace Go.Proofs.Ytlnlodleokobeaa
open Go.RowKit Go.Deep Go.Maps

theorem trip_ok {lo : Nat} {w : World} {sv : Value} {Ss : List Sh} (hS : ShsAt lo w sv Ss) {Os : List Ob} (hO : ∀ o ∈ Os, ObSize o) : TriOk (wtrip Ss Os) := by
  intro p hp
  obtain ⟨o, ho, hq⟩ := List.mem_flatMap.1 hp
  obtain ⟨q, hq', rfl⟩ := List.mem_map.1 hq
  exact ⟨(hO o ho).s2, wlist_size hS (hO o ho).s0 q hq'⟩
theorem ObsAt.sizes {lo : Nat} {w : World} {ov : Value} {Os : List Ob} (h : ObsAt lo w ov Os) : ∀ o ∈ Os, ObSize o := by
  intro o ho
  obtain ⟨i, hi, rfl⟩ := List.getElem_of_mem ho
  rcases h with ⟨_, _, _, rfl⟩ | ⟨b, off, cap, h1, h2, h3, h4, h5, h6, h7⟩
  · simp at hi
  · exact (h7 i hi).1

set_option maxHeartbeats 1000000 in
theorem specUnder_same (lo : Nat) (v : Value) (Ts : List Tm) (a b : ByteArray) (w : World) (hv : TmsAt lo w v Ts) :
    Calls Try.prog 37 #[v, .string a, .string b] w fun e w' => e = .returned (.bool (underB Ts a b)) ∧ w' = w := by
  have HV := hide hv
  obtain ⟨ta, tcap, rfl⟩ := hv.form
  clear hv
  cases hab : (a.toList == b.toList) with
  | true =>
    go_enter Try.func37, Try.ntmps37
    go_wp2
    go_ret
    exact ⟨ret_bool (by simp [underB, hab]), rfl⟩
  | false =>
    have HU : Hid (underB Ts a b = underN Ts b 4 a) := by unfold Hid underB; rw [hab]; rfl
    go_enter Try.func37, Try.ntmps37
    go_wp2
    clear hab
    go_loopw [1, 7] (fun x n wr => ∃ (k : Nat) (a' : ByteArray), x = .string a' ∧ n = .int .i64 k ∧ k ≤ 4 ∧ underB Ts a b = underN Ts b (4 - k) a' ∧ wr = w) (fun _ n _ => 4 - (intOf n).toNat)
    case atStart => exact ⟨0, a, rfl, rfl, by omega, HU.out, rfl⟩
    case round =>
      obtain ⟨k, a', rfl, rfl, hk, hu, hb⟩ := hrel
      have HU := hide hu
      subst hb
      clear hu
      by_cases hlt : k < 4
      · have HS : Hid (underB Ts a b = if (ovB Ts a').toList.isEmpty then false else if (ovB Ts a').toList == b.toList then true else underN Ts b (4 - (k + 1)) (ovB Ts a')) := by
          unfold Hid
          rw [HU.out, show 4 - k = (4 - (k + 1)) + 1 from by omega]
          rfl
        clear HU
        go_wp2_with fail
        refine (l4Over_any lo _ Ts a' _ HV.out).mono ?_
        rintro e w1 ⟨rfl, rfl⟩
        cases he : (ovB Ts a').toList.isEmpty with
        | true =>
          have HR : Hid (underB Ts a b = false) := by unfold Hid; rw [HS.out, if_pos he]
          go_wp2
          go_ret
          exact ⟨ret_bool HR.out.symm, rfl⟩
        | false =>
          cases he2 : ((ovB Ts a').toList == b.toList) with
          | true =>
            have HR : Hid (underB Ts a b = true) := by unfold Hid; rw [HS.out, if_neg (by simp [he]), if_pos he2]
            go_wp2
            go_ret
            exact ⟨ret_bool HR.out.symm, rfl⟩
          | false =>
            have HR : Hid (underB Ts a b = underN Ts b (4 - (k + 1)) (ovB Ts a')) := by unfold Hid; rw [HS.out, if_neg (by simp [he]), if_neg (by simp [he2])]
            go_wp2
            go_roundw
            case rel => exact ⟨k + 1, _, rfl, by go_num, by omega, HR.out, trivial⟩
            case measure => simp [intOf]; omega
      · have HR : Hid (underB Ts a b = false) := by unfold Hid; rw [HU.out, show 4 - k = 0 from by omega]; rfl
        go_wp2
        go_ret
        exact ⟨ret_bool HR.out.symm, rfl⟩

section
variable (lo : Nat) (sv mv tv ov gv lv pv : Value) (Ss : List Sh) (Ms : List Md) (Ts : List Tm) (Os : List Ob) (now tick given : Int) (team r : ByteArray) (w : World)

set_option maxRecDepth 100000 in
set_option maxHeartbeats 2000000 in
theorem specUsed_any (h : LawAt lo w sv mv tv Ss Ms Ts) (hO : ObsAt lo w ov Os) (hn : ObsSmall Os) (ga : Option Addr) (gn gc : Nat) (la : Option Addr) (ln lc : Nat) (pa : Option Addr) (pn pc : Nat) :
    Calls Try.prog 14 #[.agg #[sv, mv, tv], .agg #[.int .i64 now, .int .i64 tick, .int .i64 given, ov, .slice ga gn gc, .slice la ln lc, .slice pa pn pc], .string team, .string r] w
      fun e w' => e = .returned (.int .i64 (wrap64 (usedZ Ss Ts Os team r))) ∧ Below w.heap.size w w' := by
  have HL := hide h
  have HO := hide hO
  obtain ⟨a, cap, rfl⟩ := h.shs.form
  obtain ⟨a1, cap1, rfl⟩ := h.mds.form
  obtain ⟨a2, cap2, rfl⟩ := h.tms.form
  obtain ⟨oa, ocap, rfl⟩ := hO.form
  have hm := hO.max
  unfold maxLen at hm
  clear h hO
  go_enter Try.func14, Try.ntmps14
  go_wp2_with fail
  obtain ⟨wz, hwz, HX, HY, HB⟩ : ∃ wz, wz = (w.alloc (.cells #[.slice a Ss.length cap, .slice a1 Ms.length cap1, .slice a2 Ts.length cap2] 37)).alloc (.cells #[.int .i64 now, .int .i64 tick, .int .i64 given, .slice oa Os.length ocap, .slice ga gn gc, .slice la ln lc, .slice pa pn pc] 57) ∧
      Hid (Box wz w.heap.size #[.slice a Ss.length cap, .slice a1 Ms.length cap1, .slice a2 Ts.length cap2]) ∧ Hid (Box wz (w.heap.size + 1) #[.int .i64 now, .int .i64 tick, .int .i64 given, .slice oa Os.length ocap, .slice ga gn gc, .slice la ln lc, .slice pa pn pc]) ∧ Hid (Below w.heap.size w wz) :=
    ⟨_, rfl, (Box.new _ _ _ _ rfl).on (one_al _ _), Box.new _ _ _ _ (by simp), (one_al _ _).trans ((one_al _ _).mono (by simp))⟩
  rw [← hwz]
  clear hwz
  go_loopw [9, 10] (fun n i wr => ∃ k : Nat, n = .int .i64 (wrap64 (usedZ Ss Ts (Os.take k) team r)) ∧ i = .int .i64 k ∧ k ≤ Os.length ∧ Below w.heap.size w wr ∧ Box wr w.heap.size #[.slice a Ss.length cap, .slice a1 Ms.length cap1, .slice a2 Ts.length cap2] ∧ Box wr (w.heap.size + 1) #[.int .i64 now, .int .i64 tick, .int .i64 given, .slice oa Os.length ocap, .slice ga gn gc, .slice la ln lc, .slice pa pn pc])
    (fun _ i _ => Os.length - (intOf i).toNat)
  case atStart => exact ⟨0, by simp [usedZ, wrap64], rfl, by omega, HB.out, HX.out, HY.out⟩
  case round =>
    obtain ⟨k, rfl, rfl, hk, hb, hx, hy⟩ := hrel
    have HBr := hide hb
    have HXr := hide hx
    have HYr := hide hy
    have y3 := hy.cell 3
    have x0 := hx.cell 0
    have x1 := hx.cell 1
    have x2 := hx.cell 2
    simp at y3 x0 x1 x2
    clear hb hx hy
    by_cases hlt : k < Os.length
    · obtain ⟨b, off, rfl, hbw, -, hc⟩ := HO.out.full' (by omega)
      obtain ⟨hs, vv0, vv1, hcell, hv0, hv1⟩ := hc k hlt
      obtain ⟨c0, c1, c2, c3, c4, c5, c6⟩ := hcell.below HBr.out hbw
      have HV := hide hv0.at
      have HH := hide hv1.at
      obtain ⟨va, vcap, rfl⟩ := hv0.at.form'
      obtain ⟨ha, hcap, rfl⟩ := hv1.at.form'
      have HN : Hid (Os[k].vs.length ≤ 1048576) := (hn.2 k hlt).1
      have HU := hide (usedZ_snoc Ss Ts (Os.take k) Os[k] team r)
      have HTK := hide (List.take_succ_eq_append_getElem hlt)
      have HC := hide hcell
      clear hc hcell hv0 hv1 hs
      go_wp2
      go_quiet ((go_at_call 37; exact Calls.quiet_of_same (specUnder_same lo _ Ts Os[k].tm team _ (HL.out.below (below_drewN HBr.out _)).tms)))
      have HBd : Hid (Below w.heap.size w (wr.drewN nq)) := below_drewN HBr.out _
      have HXd := hide (HXr.out.on (below_drewN (Below.refl _ _) nq))
      have HYd := hide (HYr.out.on (below_drewN (Below.refl _ _) nq))
      generalize wr.drewN nq = wd at *
      cases hu : underB Ts Os[k].tm team with
      | false =>
        have HE : Hid (usedZ Ss Ts (Os.take (k + 1)) team r = usedZ Ss Ts (Os.take k) team r) := by unfold Hid; rw [HTK.out, HU.out, hu]; simp
        go_wp2
        go_roundw
        case rel => exact ⟨k + 1, by rw [HE.out], by go_num, by omega, HBd.out, HXd.out, HYd.out⟩
        case measure => simp [intOf]; omega
      | true =>
        have HE : Hid (usedZ Ss Ts (Os.take (k + 1)) team r = usedZ Ss Ts (Os.take k) team r + weighV Ss Os[k].kd Os[k].vs r) := by unfold Hid; rw [HTK.out, HU.out, hu]; simp
        clear c0 c1 c2 c3 c4 c5 c6 x0 x1 x2 y3
        obtain ⟨c0, c1, c2, c3, c4, c5, c6⟩ := HC.out.below HBd.out hbw
        have y3 := HYd.out.cell 3
        have x0 := HXd.out.cell 0
        have x1 := HXd.out.cell 1
        have x2 := HXd.out.cell 2
        simp at y3 x0 x1 x2
        have HBD : Hid (Below w.heap.size w wd.drew) := HBd.out.drew
        go_wp2
        go_region_with (go_at_call 7; refine (specWeighs_any lo _ _ _ Ss Ms Ts Os[k].kd Os[k].nm Os[k].tm _ _ Os[k].en Os[k].ver Os[k].vs Os[k].hs r _ (HL.out.below HBD.out) (HV.out.below HBD.out) (HH.out.below HBD.out) HN.out).mono ?_; rintro e w2 ⟨rfl, hb2⟩; have hb3 : Hid (Below wd.heap.size wd w2) := ((Below.refl _ _).drew).trans hb2; clear hb2)
        all_goals go_wp2
        all_goals go_roundw
        all_goals first
          | (case rel => exact ⟨k + 1, by rw [HE.out, wrap_add], by go_num, by omega, HBd.out.trans (hb3.out.mono HBd.out.size), HXd.out.on hb3.out, HYd.out.on hb3.out⟩)
          | (case measure => simp [intOf]; omega)
    · have he : k = Os.length := by omega
      subst he
      have HE : Hid (usedZ Ss Ts (Os.take Os.length) team r = usedZ Ss Ts Os team r) := by unfold Hid; rw [List.take_length]
      go_wp2
      go_ret
      exact ⟨ret_int (by rw [HE.out]), HBr.out⟩

set_option maxRecDepth 100000 in
set_option maxHeartbeats 4000000 in
theorem implUsed_any (h : LawAt lo w sv mv tv Ss Ms Ts) (hO : ObsAt lo w ov Os) (hn : ObsSmall Os) (ga : Option Addr) (gn gc : Nat) (la : Option Addr) (ln lc : Nat) (pa : Option Addr) (pn pc : Nat) :
    Calls Try.prog 16 #[.agg #[sv, mv, tv], .agg #[.int .i64 now, .int .i64 tick, .int .i64 given, ov, .slice ga gn gc, .slice la ln lc, .slice pa pn pc], .string team, .string r] w
      fun e w' => e = .returned (.int .i64 (wrap64 (usedZ Ss Ts Os team r))) ∧ Below w.heap.size w w' := by
  have HL := hide h
  have HO := hide hO
  obtain ⟨a, cap, rfl⟩ := h.shs.form
  obtain ⟨a1, cap1, rfl⟩ := h.mds.form
  obtain ⟨a2, cap2, rfl⟩ := h.tms.form
  obtain ⟨oa, ocap, rfl⟩ := hO.form
  have HTR := hide (trip_ok h.shs hO.sizes)
  have HUZ := hide (usedZ_trip Ss Ts team r Os)
  clear h hO
  go_enter Try.func16, Try.ntmps16
  go_wp2_with fail
  obtain ⟨wz, hwz, HX, HY, HB⟩ : ∃ wz, wz = (w.alloc (.cells #[.slice a Ss.length cap, .slice a1 Ms.length cap1, .slice a2 Ts.length cap2] 37)).alloc (.cells #[.int .i64 now, .int .i64 tick, .int .i64 given, .slice oa Os.length ocap, .slice ga gn gc, .slice la ln lc, .slice pa pn pc] 57) ∧
      Hid (Box wz w.heap.size #[.slice a Ss.length cap, .slice a1 Ms.length cap1, .slice a2 Ts.length cap2]) ∧ Hid (Box wz (w.heap.size + 1) #[.int .i64 now, .int .i64 tick, .int .i64 given, .slice oa Os.length ocap, .slice ga gn gc, .slice la ln lc, .slice pa pn pc]) ∧ Hid (Below w.heap.size w wz) :=
    ⟨_, rfl, (Box.new _ _ _ _ rfl).on (one_al _ _), Box.new _ _ _ _ (by simp), (one_al _ _).trans ((one_al _ _).mono (by simp))⟩
  rw [← hwz]
  clear hwz
  have HD : Hid (Below w.heap.size w wz.drew) := HB.out.drew
  go_region_held3 (Held2 wz w.heap.size #[.slice a Ss.length cap, .slice a1 Ms.length cap1, .slice a2 Ts.length cap2] (w.heap.size + 1) #[.int .i64 now, .int .i64 tick, .int .i64 given, .slice oa Os.length ocap, .slice ga gn gc, .slice la ln lc, .slice pa pn pc])
    (first
      | (with_reducible exact Held2.drew HX.out HY.out)
      | (with_reducible exact Held2.on (by assumption) (by assumption)))
    (first
      | (go_at_call 42
         refine (weighed_any lo _ _ Ss Os _ (HL.out.below HD.out).shs (HO.out.below HD.out) hn).mono ?_
         rintro e w1 ⟨rfl, hb1, D, ho, hsum⟩
         have HC1 : Hid (Below w.heap.size w w1) := HD.out.trans (hb1.mono HD.out.size)
         have HOW := hide ho
         have HSU := hide hsum
         clear ho hsum)
      | (go_at_call 43
         refine (sumsUnder_any lo _ Ts team r _ _ (HL.out.below HC1.out).tms HOW.out HSU.out HTR.out).mono ?_
         rintro e w2 ⟨rfl, hb2⟩
         have HC2 : Hid (Below w.heap.size w w2) := HC1.out.trans (hb2.mono HC1.out.size)))
  all_goals go_wp2
  all_goals go_ret
  all_goals exact ⟨ret_int (by rw [HUZ.out]), HC2.out⟩
end
end Go.Proofs.Ytlnlodleokobeaa

