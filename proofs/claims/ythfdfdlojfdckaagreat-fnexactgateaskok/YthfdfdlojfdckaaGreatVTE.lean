import Derived.Test.YthfdfdlojfdckaaGreatVTD
import Derived.Deep.RegionHeld3
import Derived.Test.YthfdfdlojfdckaaGreatVTA
import Derived.Test.YthfdfdlojfdckaaGreatVDA
import Derived.Test.YthfdfdlojfdckaaGreatVA1
import Derived.Test.YthfdfdlojfdckaaGreatVTB
import Derived.Test.YthfdfdlojfdckaaGreatVB2
namespace Go.Proofs.YthfdfdlojfdckaaGreat
open Go.RowKit Go.Deep

set_option maxHeartbeats 400000 in
theorem rightOf_any (tv vv : Value) (r : Ru) (nt : Nat) (a : Option Addr) (cap : Nat) (a' : Option Addr) (cap' : Nat) (ht : tv = .slice a nt cap) (hvv : vv = .slice a' r.vb.length cap') (w : World) :
    Calls Tryz.prog 124 #[tv, .agg #[vv, .string r.kd, .string r.tm, .string r.pf]] w fun e w' => e = .returned (.func (.func 163) #[.agg #[tv, vv, .string r.kd, .string r.tm, .string r.pf]] #[]) ∧ Below w.heap.size w w' := by
  subst hvv ht
  go_enter Tryz.func124, Tryz.ntmps124
  go_wp2
  go_ret
  exact ⟨rfl, one_al _ _⟩

set_option maxHeartbeats 2000000 in
theorem gives_any (lo lr : Nat) (tv vv : Value) (Ts : List Tm) (r : Ru) (kind team name : ByteArray) (w : World) (hT : TmsAt lo w tv Ts) (hv : IntsIn lr w vv r.vb) :
    Calls Tryz.prog 163 #[.agg #[tv, vv, .string r.kd, .string r.tm, .string r.pf], .string kind, .string team, .string name] w
      fun e w' => e = .returned (.int .u8 (num (givesP Ts r kind team name))) ∧ Below w.heap.size w w' := by
  have HT := hide hT
  have HV := hide hv
  obtain ⟨ta, tcap, rfl⟩ := hT.form
  obtain ⟨a, cap, rfl⟩ := hv.form
  clear hT hv
  by_cases q1 : (!r.kd.toList.isEmpty && !(r.kd.toList == kind.toList)) = true
  · rw [Bool.and_eq_true] at q1
    have e1 : r.kd.toList.isEmpty = false := by simpa using q1.1
    have e2 : (r.kd.toList == kind.toList) = false := by rw [← Bool.not_eq_true']; exact q1.2
    have HR : Hid (num (givesP Ts r kind team name) = 0) := gives_no (by unfold matchB; rw [e1, e2]; rfl)
    clear q1
    go_enter Tryz.func163, Tryz.ntmps163
    go_wp2
    go_ret
    exact ⟨ret_u8 HR.out.symm, one_al _ _⟩
  have HK : Hid ((r.kd.toList.isEmpty || r.kd.toList == kind.toList) = true) := by
    unfold Hid
    cases h1 : r.kd.toList.isEmpty <;> cases h2 : (r.kd.toList == kind.toList) <;> simp_all
  have HE : Hid (matchB Ts r kind team name = ((r.tm.toList.isEmpty || underB Ts team r.tm) && beginsB name r.pf)) := by unfold Hid matchB; rw [HK.out]; rfl
  have hk : r.kd.toList.isEmpty = true ∨ (r.kd.toList.isEmpty = false ∧ (r.kd.toList == kind.toList) = true) := by
    have := HK.out
    cases h1 : r.kd.toList.isEmpty <;> cases h2 : (r.kd.toList == kind.toList) <;> simp_all
  clear q1 HK
  rcases hk with h1 | ⟨h1, h2⟩
  · cases h3 : r.tm.toList.isEmpty with
    | true =>
      go_enter Tryz.func163, Tryz.ntmps163
      go_wp2_with fail
      generalize hWa : w.alloc _ = Wa
      have HBa : Hid (Below w.heap.size w Wa) := by rw [← hWa]; exact one_al _ _
      have FA : Hid (Box Wa w.heap.size #[.slice ta Ts.length tcap, .slice a r.vb.length cap, .string r.kd, .string r.tm, .string r.pf]) := by rw [← hWa]; exact Box.new _ _ _ _ rfl
      clear hWa
      have a1 : Wa.cell? ⟨w.heap.size, 1, none⟩ = some (.slice a r.vb.length cap) := FA.out.cell 1
      have a4 : Wa.cell? ⟨w.heap.size, 4, none⟩ = some (.string r.pf) := FA.out.cell 4
      refine (hasPrefix_any name r.pf _).mono ?_
      rintro e w2 ⟨rfl, rfl⟩
      cases hq : beginsB name r.pf with
      | false =>
        have HR : Hid (num (givesP Ts r kind team name) = 0) := gives_no (by rw [HE.out, hq]; simp)
        go_wp2
        go_ret
        exact ⟨ret_u8 HR.out.symm, HBa.out⟩
      | true =>
        have HR : Hid (num (givesP Ts r kind team name) = num (hasV r.vb)) := gives_yes (by rw [HE.out, hq]; simp [h3])
        go_wp2_with fail
        refine (verbsOf_any lr _ r.vb _ (HV.out.below HBa.out)).mono ?_
        rintro e w3 ⟨rfl, rfl⟩
        go_wp2
        go_ret
        exact ⟨ret_u8 HR.out.symm, HBa.out⟩
    | false =>
      go_enter Tryz.func163, Tryz.ntmps163
      go_wp2_with fail
      generalize hWa : w.alloc _ = Wa
      have HBa : Hid (Below w.heap.size w Wa) := by rw [← hWa]; exact one_al _ _
      have FA : Hid (Box Wa w.heap.size #[.slice ta Ts.length tcap, .slice a r.vb.length cap, .string r.kd, .string r.tm, .string r.pf]) := by rw [← hWa]; exact Box.new _ _ _ _ rfl
      clear hWa
      refine (implUnder_any lo _ Ts team r.tm _ (HT.out.below HBa.out)).mono ?_
      rintro e w1 ⟨rfl, hb1⟩
      replace FA := hide (FA.out.on hb1)
      replace HBa : Hid (Below w.heap.size w w1) := HBa.out.trans (hb1.mono HBa.out.size)
      clear hb1
      have a1 : w1.cell? ⟨w.heap.size, 1, none⟩ = some (.slice a r.vb.length cap) := FA.out.cell 1
      have a4 : w1.cell? ⟨w.heap.size, 4, none⟩ = some (.string r.pf) := FA.out.cell 4
      cases h4 : underB Ts team r.tm with
      | false =>
        have HR : Hid (num (givesP Ts r kind team name) = 0) := gives_no (by rw [HE.out, h3, h4]; rfl)
        go_wp2
        go_ret
        exact ⟨ret_u8 HR.out.symm, HBa.out⟩
      | true =>
        go_wp2_with fail
        refine (hasPrefix_any name r.pf _).mono ?_
        rintro e w2 ⟨rfl, rfl⟩
        cases hq : beginsB name r.pf with
        | false =>
          have HR : Hid (num (givesP Ts r kind team name) = 0) := gives_no (by rw [HE.out, hq]; simp)
          go_wp2
          go_ret
          exact ⟨ret_u8 HR.out.symm, HBa.out⟩
        | true =>
          have HR : Hid (num (givesP Ts r kind team name) = num (hasV r.vb)) := gives_yes (by rw [HE.out, hq]; simp [h3, h4])
          go_wp2_with fail
          refine (verbsOf_any lr _ r.vb _ (HV.out.below HBa.out)).mono ?_
          rintro e w3 ⟨rfl, rfl⟩
          go_wp2
          go_ret
          exact ⟨ret_u8 HR.out.symm, HBa.out⟩
  · cases h3 : r.tm.toList.isEmpty with
    | true =>
      go_enter Tryz.func163, Tryz.ntmps163
      go_wp2_with fail
      generalize hWa : w.alloc _ = Wa
      have HBa : Hid (Below w.heap.size w Wa) := by rw [← hWa]; exact one_al _ _
      have FA : Hid (Box Wa w.heap.size #[.slice ta Ts.length tcap, .slice a r.vb.length cap, .string r.kd, .string r.tm, .string r.pf]) := by rw [← hWa]; exact Box.new _ _ _ _ rfl
      clear hWa
      have a1 : Wa.cell? ⟨w.heap.size, 1, none⟩ = some (.slice a r.vb.length cap) := FA.out.cell 1
      have a4 : Wa.cell? ⟨w.heap.size, 4, none⟩ = some (.string r.pf) := FA.out.cell 4
      refine (hasPrefix_any name r.pf _).mono ?_
      rintro e w2 ⟨rfl, rfl⟩
      cases hq : beginsB name r.pf with
      | false =>
        have HR : Hid (num (givesP Ts r kind team name) = 0) := gives_no (by rw [HE.out, hq]; simp)
        go_wp2
        go_ret
        exact ⟨ret_u8 HR.out.symm, HBa.out⟩
      | true =>
        have HR : Hid (num (givesP Ts r kind team name) = num (hasV r.vb)) := gives_yes (by rw [HE.out, hq]; simp [h3])
        go_wp2_with fail
        refine (verbsOf_any lr _ r.vb _ (HV.out.below HBa.out)).mono ?_
        rintro e w3 ⟨rfl, rfl⟩
        go_wp2
        go_ret
        exact ⟨ret_u8 HR.out.symm, HBa.out⟩
    | false =>
      go_enter Tryz.func163, Tryz.ntmps163
      go_wp2_with fail
      generalize hWa : w.alloc _ = Wa
      have HBa : Hid (Below w.heap.size w Wa) := by rw [← hWa]; exact one_al _ _
      have FA : Hid (Box Wa w.heap.size #[.slice ta Ts.length tcap, .slice a r.vb.length cap, .string r.kd, .string r.tm, .string r.pf]) := by rw [← hWa]; exact Box.new _ _ _ _ rfl
      clear hWa
      refine (implUnder_any lo _ Ts team r.tm _ (HT.out.below HBa.out)).mono ?_
      rintro e w1 ⟨rfl, hb1⟩
      replace FA := hide (FA.out.on hb1)
      replace HBa : Hid (Below w.heap.size w w1) := HBa.out.trans (hb1.mono HBa.out.size)
      clear hb1
      have a1 : w1.cell? ⟨w.heap.size, 1, none⟩ = some (.slice a r.vb.length cap) := FA.out.cell 1
      have a4 : w1.cell? ⟨w.heap.size, 4, none⟩ = some (.string r.pf) := FA.out.cell 4
      cases h4 : underB Ts team r.tm with
      | false =>
        have HR : Hid (num (givesP Ts r kind team name) = 0) := gives_no (by rw [HE.out, h3, h4]; rfl)
        go_wp2
        go_ret
        exact ⟨ret_u8 HR.out.symm, HBa.out⟩
      | true =>
        go_wp2_with fail
        refine (hasPrefix_any name r.pf _).mono ?_
        rintro e w2 ⟨rfl, rfl⟩
        cases hq : beginsB name r.pf with
        | false =>
          have HR : Hid (num (givesP Ts r kind team name) = 0) := gives_no (by rw [HE.out, hq]; simp)
          go_wp2
          go_ret
          exact ⟨ret_u8 HR.out.symm, HBa.out⟩
        | true =>
          have HR : Hid (num (givesP Ts r kind team name) = num (hasV r.vb)) := gives_yes (by rw [HE.out, hq]; simp [h3, h4])
          go_wp2_with fail
          refine (verbsOf_any lr _ r.vb _ (HV.out.below HBa.out)).mono ?_
          rintro e w3 ⟨rfl, rfl⟩
          go_wp2
          go_ret
          exact ⟨ret_u8 HR.out.symm, HBa.out⟩
end Go.Proofs.YthfdfdlojfdckaaGreat

namespace Go.Proofs.YthfdfdlojfdckaaGreat
open Go.RowKit Go.Deep

set_option maxRecDepth 20000 in
set_option maxHeartbeats 2000000 in
theorem allowsAct_any (lo lr : Nat) (tv vv : Value) (Ts : List Tm) (r : Ru) (v : Int) (kind team name : ByteArray) (w : World) (hT : TmsAt lo w tv Ts) (hv : IntsIn lr w vv r.vb) :
    Calls Tryz.prog 77 #[tv, .agg #[vv, .string r.kd, .string r.tm, .string r.pf], .agg #[.int .i64 v, .string kind, .string team, .string name]] w
      fun e w' => e = .returned (.bool (inB 1 5 v && givesP Ts r kind team name v)) ∧ Below w.heap.size w w' := by
  have HT := hide hT
  have HV := hide hv
  obtain ⟨ta, tcap, rfl⟩ := hT.form
  obtain ⟨a, cap, rfl⟩ := hv.form
  clear hT hv
  go_enter Tryz.func77, Tryz.ntmps77
  go_wp2
  generalize hWa : (World.alloc (w.alloc _) _) = Wa
  have HBa : Hid (Below w.heap.size w Wa) := by rw [← hWa]; exact (one_al w _).alloc (by simp) _
  have FA : Hid (Box Wa w.heap.size #[.slice a r.vb.length cap, .string r.kd, .string r.tm, .string r.pf]) := by rw [← hWa]; exact (Box.new _ _ _ _ rfl).on (one_al _ _)
  have FB : Hid (Box Wa (w.heap.size + 1) #[.int .i64 v, .string kind, .string team, .string name]) := by rw [← hWa]; exact Box.new _ _ _ _ (by simp)
  clear hWa
  have HTa := hide (HT.out.below HBa.out)
  have HVa := hide (HV.out.below HBa.out)
  go_region_held3 (Held2 Wa w.heap.size #[.slice a r.vb.length cap, .string r.kd, .string r.tm, .string r.pf] (w.heap.size + 1) #[.int .i64 v, .string kind, .string team, .string name])
    (first
      | (with_reducible exact Held2.drew FA.out FB.out)
      | (with_reducible exact Held2.on (by assumption) (by assumption)))
    (first
      | (go_at_call 124
         refine (rightOf_any _ _ r _ _ _ _ _ rfl rfl _).mono ?_
         rintro e w1 ⟨rfl, hb1⟩
         have HC1 : Hid (Below Wa.heap.size Wa w1) := bt ((Below.refl _ _).drew) hb1)
      | (go_at_call 163
         refine (gives_any lo lr _ _ Ts r kind team name _ (HTa.out.below HC1.out) (HVa.out.below HC1.out)).mono ?_
         rintro e w2 ⟨rfl, hb2⟩
         have HC2 : Hid (Below Wa.heap.size Wa w2) := bt HC1.out hb2)
      | (go_at_call 125
         refine (hasMask_any _ v _).mono ?_
         rintro e w3 ⟨rfl, rfl⟩
         have HC3 := HC2
         have hb3 : Below w3.heap.size w3 w3 := Below.refl _ _))
  all_goals
    go_wp2
    go_ret
    exact ⟨rfl, bt HBa.out HC3.out⟩

theorem allows_in {Ts : List Tm} {r : Ru} {v : Int} {kind team name : ByteArray} (h : ruleB r = true) : (inB 1 5 v && givesP Ts r kind team name v) = givesP Ts r kind team name v := by
  cases hg : givesP Ts r kind team name v with
  | false => simp
  | true =>
    unfold givesP at hg
    rw [Bool.and_eq_true] at hg
    have := vbs_in (rule_vbs h) hg.2
    have e : inB 1 5 v = true := by unfold inB; simp; omega
    rw [e]; rfl

end Go.Proofs.YthfdfdlojfdckaaGreat

namespace Go.Proofs.YthfdfdlojfdckaaGreat
open Go.RowKit Go.Deep

set_option maxHeartbeats 1000000 in
theorem l4Verb_any (lr : Nat) (r : Ru) (vv : Value) (v : Int) (w : World) (hv : IntsIn lr w vv r.vb) :
    Calls Tryz.prog 114 #[.agg #[vv, .string r.kd, .string r.tm, .string r.pf], .int .i64 v] w fun e w' => e = .returned (.bool (hasV r.vb v)) ∧ Below w.heap.size w w' := by
  have HV := hide hv
  have hm := hv.max
  unfold maxLen at hm
  obtain ⟨a, cap, rfl⟩ := hv.form
  clear hv
  go_enter Tryz.func114, Tryz.ntmps114
  go_wp2
  generalize hWa : w.alloc _ = Wa
  have HBa : Hid (Below w.heap.size w Wa) := by rw [← hWa]; exact one_al _ _
  have FA : Hid (Box Wa w.heap.size #[.slice a r.vb.length cap, .string r.kd, .string r.tm, .string r.pf]) := by rw [← hWa]; exact Box.new _ _ _ _ rfl
  clear hWa
  have g0 : Wa.cell? ⟨w.heap.size, 0, none⟩ = some (.slice a r.vb.length cap) := FA.out.cell 0
  go_loop [5] (fun i => ∃ k : Nat, i = .int .i64 k ∧ k ≤ r.vb.length ∧ ∀ j (hj : j < r.vb.length), j < k → (r.vb[j] == v) = false) (fun i => r.vb.length - (intOf i).toNat)
  case atStart => exact ⟨0, rfl, by omega, fun j _ h => by omega⟩
  case round =>
    obtain ⟨k, rfl, hk, hall⟩ := hrel
    have HA := hide hall
    clear hall
    by_cases hlt : k < r.vb.length
    · obtain ⟨b, off, rfl, hbw, hc⟩ := (HV.out.below HBa.out).full' (by omega)
      have c0 := hc k hlt
      clear hc
      cases he : (r.vb[k] == v) with
      | true =>
        have he2 : r.vb[k] = v := by simpa using he
        go_wp2
        go_ret
        exact ⟨ret_bool (hasV_stop hlt he).symm, HBa.out⟩
      | false =>
        have he2 : ¬ r.vb[k] = v := by simpa using he
        go_wp2
        go_round
        case rel => exact ⟨k + 1, by go_num, by omega, fun j hj h => by
                      by_cases e : j = k
                      · subst e; exact he
                      · exact HA.out j hj (by omega)⟩
        case measure => simp [intOf]; omega
    · go_wp2
      go_ret
      exact ⟨ret_bool (hasV_no fun j hj => HA.out j hj (by omega)).symm, HBa.out⟩

set_option maxRecDepth 20000 in
set_option maxHeartbeats 4000000 in
theorem specRule_any (lr : Nat) (r : Ru) (vv : Value) (w : World) (hv : IntsIn lr w vv r.vb) (hz : RuSize r) :
    Calls Tryz.prog 94 #[.agg #[vv, .string r.kd, .string r.tm, .string r.pf]] w fun e w' => e = .returned (.bool (ruleB r)) ∧ Below w.heap.size w w' := by
  have HV := hide hv
  have HZ := hide hz
  have hm := hv.max
  unfold maxLen at hm
  have hsz := hz.s3
  unfold maxLen at hsz
  obtain ⟨a, cap, rfl⟩ := hv.form
  clear hv hz
  by_cases hpos : 0 < r.vb.length
  case neg =>
    have HR : Hid (ruleB r = false) := by unfold Hid ruleB vbsB; rw [decide_eq_false hpos]; rfl
    have h0 : r.vb.length = 0 := by omega
    rw [h0]
    clear hm
    go_enter Tryz.func94, Tryz.ntmps94
    go_wp2
    go_ret
    exact ⟨ret_bool HR.out.symm, one_al _ _⟩
  have HPOS := hide hpos
  have hbl : ((r.vb.length : Int) == 0) = false := by rw [beq_eq_false_iff_ne]; omega
  have hnil : ¬ r.vb = [] := fun e => by rw [e] at hpos; simp at hpos
  by_cases h16 : (r.pf.size : Int) ≤ 16
  case neg =>
    have HR : Hid (ruleB r = false) := by unfold Hid ruleB; rw [decide_eq_false h16]; simp
    have h16' : (16 : Int) < r.pf.size := by omega
    go_enter Tryz.func94, Tryz.ntmps94
    go_wp2
    go_ret
    exact ⟨ret_bool HR.out.symm, one_al _ _⟩
  have h16p : ¬ (16 : Int) < r.pf.size := by omega
  cases h1 : r.kd.toList.isEmpty with
  | true =>
    have HKD : Hid (emptyOrName r.kd = true) := by unfold Hid emptyOrName; rw [h1]; rfl
    cases h3 : r.tm.toList.isEmpty with
    | true =>
      have HTM : Hid (emptyOrName r.tm = true) := by unfold Hid emptyOrName; rw [h3]; rfl
      go_enter Tryz.func94, Tryz.ntmps94
      go_wp2
      try simp only [hbl]
      try simp only [h2]
      try simp only [h4]
      generalize hWa : w.alloc _ = Wa
      have HBa : Hid (Below w.heap.size w Wa) := by rw [← hWa]; exact one_al _ _
      have FA : Hid (Box Wa w.heap.size #[.slice a r.vb.length cap, .string r.kd, .string r.tm, .string r.pf]) := by rw [← hWa]; exact Box.new _ _ _ _ rfl
      clear hWa
      have HVa := hide (HV.out.below HBa.out)
      go_loopw [3] (fun i wr => ∃ k : Nat, i = .int .i64 k ∧ k ≤ r.vb.length ∧ Below Wa.heap.size Wa wr ∧ ∀ i, i < k → vAt r.vb i = true) (fun i _ => r.vb.length - (intOf i).toNat)
      case atStart => exact ⟨0, rfl, by omega, Below.refl _ _, fun i h => by omega⟩
      case round =>
        obtain ⟨k, rfl, hk, hb, hall⟩ := hrel
        have HA := hide hall
        have HB := hide hb
        clear hall hb
        have g0 : wr.cell? ⟨w.heap.size, 0, none⟩ = some (.slice a r.vb.length cap) := (FA.out.on HB.out).cell 0
        have g3 : wr.cell? ⟨w.heap.size, 3, none⟩ = some (.string r.pf) := (FA.out.on HB.out).cell 3
        have HX0 : Hid (Below w.heap.size w wr) := bt HBa.out HB.out
        obtain ⟨b, off, rfl, hbw, hc⟩ := (HVa.out.below HB.out).full' hpos
        by_cases hlt : k < r.vb.length
        · have c0 := hc k hlt
          cases hi : inB 1 5 r.vb[k] with
          | false =>
            have HR : Hid (ruleB r = false) := by unfold Hid ruleB; rw [vbs_no hlt (vAt_in hlt hi)]; rfl
            cases k with
            | zero =>
              have c0 : wr.cell? ⟨b, off, none⟩ = some (.int .i64 r.vb[0]) := by simpa using c0
              go_wp2
              go_quiet ((go_at_call 62; exact (in_any _ _ _ _).mono fun _ _ h => ⟨h.1, _, h.2⟩))
              go_wp2
              go_ret
              exact ⟨ret_bool HR.out.symm, below_drewN HX0.out _⟩
            | succ j =>
              go_wp2
              go_quiet ((go_at_call 62; exact (in_any _ _ _ _).mono fun _ _ h => ⟨h.1, _, h.2⟩))
              go_wp2
              go_ret
              exact ⟨ret_bool HR.out.symm, below_drewN HX0.out _⟩
          | true =>
            cases k with
            | zero =>
              have c0 : wr.cell? ⟨b, off, none⟩ = some (.int .i64 r.vb[0]) := by simpa using c0
              have HX : Hid (vAt r.vb 0 = true) := by unfold Hid; rw [vAt_zero hlt]; exact hi
              go_wp2
              go_quiet ((go_at_call 62; exact (in_any _ _ _ _).mono fun _ _ h => ⟨h.1, _, h.2⟩))
              go_wp2
              go_roundw
              case rel => exact ⟨1, by go_num, by omega, below_drewN HB.out _, v_one HX.out⟩
              case measure => simp [intOf]; omega
            | succ j =>
              have cj := hc j (by omega)
              have hjw : IntKind.i64.wrap (j : Int) = j := by rw [IntKind.wrap_i64]; omega
              have hjl : j < r.vb.length := by omega
              have hdl : decide ((j : Int) + 1 < (r.vb.length : Int)) = true := by simp; omega
              have cj3 : ∀ n, (wr.drewN n).cell? ⟨b, off + j, none⟩ = some (.int .i64 r.vb[j]) := fun n => cj
              have c03 : ∀ n, (wr.drewN n).cell? ⟨b, off + (j + 1), none⟩ = some (.int .i64 r.vb[j + 1]) := fun n => c0
              by_cases hls : r.vb[j] < r.vb[j + 1]
              · have HX : Hid (vAt r.vb (j + 1) = true) := by unfold Hid; rw [vAt_succ hlt, hi, decide_eq_true hls]; rfl
                go_wp2
                go_quiet ((go_at_call 62; exact (in_any _ _ _ _).mono fun _ _ h => ⟨h.1, _, h.2⟩))
                go_wp2
                go_roundw
                case rel => exact ⟨j + 2, by go_num, by omega, below_drewN HB.out _, fun i hi => by
                              by_cases e : i = j + 1
                              · subst e; exact HX.out
                              · exact HA.out i (by omega)⟩
                case measure => simp [intOf]; omega
              · have HR : Hid (ruleB r = false) := by unfold Hid ruleB; rw [vbs_no hlt (by rw [vAt_succ hlt, decide_eq_false hls]; simp)]; rfl
                go_wp2
                go_quiet ((go_at_call 62; exact (in_any _ _ _ _).mono fun _ _ h => ⟨h.1, _, h.2⟩))
                go_wp2
                go_ret
                exact ⟨ret_bool HR.out.symm, below_drewN HX0.out _⟩
        · have HR : Hid (ruleB r = allB nameByte r.pf) := by
            unfold Hid ruleB
            rw [vbs_yes (by omega) HA.out, decide_eq_true HPOS.out, HKD.out, HTM.out, decide_eq_true h16]; rfl
          go_wp2
          go_loop [4] (fun i => ∃ q : Nat, q ≤ r.pf.size ∧ i = .int .i64 q ∧ (r.pf.data.toList.take q).all nameByte = true) (fun i => r.pf.size - (intOf i).toNat)
          case atStart => exact ⟨0, Nat.zero_le _, rfl, rfl⟩
          case round =>
            obtain ⟨q, hq, rfl, hallq⟩ := hrel
            have HAQ := hide hallq
            clear hallq
            by_cases hltq : q < r.pf.size
            · by_cases hn : nameByte r.pf[q] = true
              · go_wp2_with (go_at_call 131; refine (byte_any _ _).mono ?_; rintro e w' ⟨rfl, rfl⟩)
                go_round
                case rel => exact ⟨q + 1, by omega, by go_num, all_step HAQ.out hltq hn⟩
                case measure => simp [intOf]; omega
              · have hn' : nameByte r.pf[q] = false := by simpa using hn
                go_wp2_with (go_at_call 131; refine (byte_any _ _).mono ?_; rintro e w' ⟨rfl, rfl⟩)
                go_ret
                exact ⟨ret_bool (by rw [HR.out, all_stop hltq hn']), HX0.out⟩
            · go_wp2
              go_ret
              exact ⟨ret_bool (by rw [HR.out, all_end HAQ.out (by omega)]), HX0.out⟩
    | false =>
      have HTE : Hid (emptyOrName r.tm = nameB r.tm) := by unfold Hid emptyOrName; rw [h3]; rfl
      go_enter Tryz.func94, Tryz.ntmps94
      go_wp2_with fail
      refine (nameOk_any r.tm _ HZ.out.s2).mono ?_
      rintro e w2 ⟨rfl, rfl⟩
      cases h4 : nameB r.tm with
      | false =>
        have HR : Hid (ruleB r = false) := by unfold Hid ruleB; rw [HTE.out, h4]; simp
        go_wp2
        go_ret
        exact ⟨ret_bool HR.out.symm, one_al _ _⟩
      | true =>
        have HTM : Hid (emptyOrName r.tm = true) := by unfold Hid; rw [HTE.out, h4]
        go_wp2
        try simp only [hbl]
        try simp only [h2]
        try simp only [h4]
        generalize hWa : w.alloc _ = Wa
        have HBa : Hid (Below w.heap.size w Wa) := by rw [← hWa]; exact one_al _ _
        have FA : Hid (Box Wa w.heap.size #[.slice a r.vb.length cap, .string r.kd, .string r.tm, .string r.pf]) := by rw [← hWa]; exact Box.new _ _ _ _ rfl
        clear hWa
        have HVa := hide (HV.out.below HBa.out)
        go_loopw [3] (fun i wr => ∃ k : Nat, i = .int .i64 k ∧ k ≤ r.vb.length ∧ Below Wa.heap.size Wa wr ∧ ∀ i, i < k → vAt r.vb i = true) (fun i _ => r.vb.length - (intOf i).toNat)
        case atStart => exact ⟨0, rfl, by omega, Below.refl _ _, fun i h => by omega⟩
        case round =>
          obtain ⟨k, rfl, hk, hb, hall⟩ := hrel
          have HA := hide hall
          have HB := hide hb
          clear hall hb
          have g0 : wr.cell? ⟨w.heap.size, 0, none⟩ = some (.slice a r.vb.length cap) := (FA.out.on HB.out).cell 0
          have g3 : wr.cell? ⟨w.heap.size, 3, none⟩ = some (.string r.pf) := (FA.out.on HB.out).cell 3
          have HX0 : Hid (Below w.heap.size w wr) := bt HBa.out HB.out
          obtain ⟨b, off, rfl, hbw, hc⟩ := (HVa.out.below HB.out).full' hpos
          by_cases hlt : k < r.vb.length
          · have c0 := hc k hlt
            cases hi : inB 1 5 r.vb[k] with
            | false =>
              have HR : Hid (ruleB r = false) := by unfold Hid ruleB; rw [vbs_no hlt (vAt_in hlt hi)]; rfl
              cases k with
              | zero =>
                have c0 : wr.cell? ⟨b, off, none⟩ = some (.int .i64 r.vb[0]) := by simpa using c0
                go_wp2
                go_quiet ((go_at_call 62; exact (in_any _ _ _ _).mono fun _ _ h => ⟨h.1, _, h.2⟩))
                go_wp2
                go_ret
                exact ⟨ret_bool HR.out.symm, below_drewN HX0.out _⟩
              | succ j =>
                go_wp2
                go_quiet ((go_at_call 62; exact (in_any _ _ _ _).mono fun _ _ h => ⟨h.1, _, h.2⟩))
                go_wp2
                go_ret
                exact ⟨ret_bool HR.out.symm, below_drewN HX0.out _⟩
            | true =>
              cases k with
              | zero =>
                have c0 : wr.cell? ⟨b, off, none⟩ = some (.int .i64 r.vb[0]) := by simpa using c0
                have HX : Hid (vAt r.vb 0 = true) := by unfold Hid; rw [vAt_zero hlt]; exact hi
                go_wp2
                go_quiet ((go_at_call 62; exact (in_any _ _ _ _).mono fun _ _ h => ⟨h.1, _, h.2⟩))
                go_wp2
                go_roundw
                case rel => exact ⟨1, by go_num, by omega, below_drewN HB.out _, v_one HX.out⟩
                case measure => simp [intOf]; omega
              | succ j =>
                have cj := hc j (by omega)
                have hjw : IntKind.i64.wrap (j : Int) = j := by rw [IntKind.wrap_i64]; omega
                have hjl : j < r.vb.length := by omega
                have hdl : decide ((j : Int) + 1 < (r.vb.length : Int)) = true := by simp; omega
                have cj3 : ∀ n, (wr.drewN n).cell? ⟨b, off + j, none⟩ = some (.int .i64 r.vb[j]) := fun n => cj
                have c03 : ∀ n, (wr.drewN n).cell? ⟨b, off + (j + 1), none⟩ = some (.int .i64 r.vb[j + 1]) := fun n => c0
                by_cases hls : r.vb[j] < r.vb[j + 1]
                · have HX : Hid (vAt r.vb (j + 1) = true) := by unfold Hid; rw [vAt_succ hlt, hi, decide_eq_true hls]; rfl
                  go_wp2
                  go_quiet ((go_at_call 62; exact (in_any _ _ _ _).mono fun _ _ h => ⟨h.1, _, h.2⟩))
                  go_wp2
                  go_roundw
                  case rel => exact ⟨j + 2, by go_num, by omega, below_drewN HB.out _, fun i hi => by
                                by_cases e : i = j + 1
                                · subst e; exact HX.out
                                · exact HA.out i (by omega)⟩
                  case measure => simp [intOf]; omega
                · have HR : Hid (ruleB r = false) := by unfold Hid ruleB; rw [vbs_no hlt (by rw [vAt_succ hlt, decide_eq_false hls]; simp)]; rfl
                  go_wp2
                  go_quiet ((go_at_call 62; exact (in_any _ _ _ _).mono fun _ _ h => ⟨h.1, _, h.2⟩))
                  go_wp2
                  go_ret
                  exact ⟨ret_bool HR.out.symm, below_drewN HX0.out _⟩
          · have HR : Hid (ruleB r = allB nameByte r.pf) := by
              unfold Hid ruleB
              rw [vbs_yes (by omega) HA.out, decide_eq_true HPOS.out, HKD.out, HTM.out, decide_eq_true h16]; rfl
            go_wp2
            go_loop [4] (fun i => ∃ q : Nat, q ≤ r.pf.size ∧ i = .int .i64 q ∧ (r.pf.data.toList.take q).all nameByte = true) (fun i => r.pf.size - (intOf i).toNat)
            case atStart => exact ⟨0, Nat.zero_le _, rfl, rfl⟩
            case round =>
              obtain ⟨q, hq, rfl, hallq⟩ := hrel
              have HAQ := hide hallq
              clear hallq
              by_cases hltq : q < r.pf.size
              · by_cases hn : nameByte r.pf[q] = true
                · go_wp2_with (go_at_call 131; refine (byte_any _ _).mono ?_; rintro e w' ⟨rfl, rfl⟩)
                  go_round
                  case rel => exact ⟨q + 1, by omega, by go_num, all_step HAQ.out hltq hn⟩
                  case measure => simp [intOf]; omega
                · have hn' : nameByte r.pf[q] = false := by simpa using hn
                  go_wp2_with (go_at_call 131; refine (byte_any _ _).mono ?_; rintro e w' ⟨rfl, rfl⟩)
                  go_ret
                  exact ⟨ret_bool (by rw [HR.out, all_stop hltq hn']), HX0.out⟩
              · go_wp2
                go_ret
                exact ⟨ret_bool (by rw [HR.out, all_end HAQ.out (by omega)]), HX0.out⟩
  | false =>
    have HKE : Hid (emptyOrName r.kd = nameB r.kd) := by unfold Hid emptyOrName; rw [h1]; rfl
    go_enter Tryz.func94, Tryz.ntmps94
    go_wp2_with fail
    refine (nameOk_any r.kd _ HZ.out.s1).mono ?_
    rintro e w1 ⟨rfl, rfl⟩
    cases h2 : nameB r.kd with
    | false =>
      have HR : Hid (ruleB r = false) := by unfold Hid ruleB; rw [HKE.out, h2]; simp
      go_wp2
      go_ret
      exact ⟨ret_bool HR.out.symm, one_al _ _⟩
    | true =>
      have HKD : Hid (emptyOrName r.kd = true) := by unfold Hid; rw [HKE.out, h2]
      cases h3 : r.tm.toList.isEmpty with
      | true =>
        have HTM : Hid (emptyOrName r.tm = true) := by unfold Hid emptyOrName; rw [h3]; rfl
        go_wp2
        try simp only [hbl]
        try simp only [h2]
        try simp only [h4]
        generalize hWa : w.alloc _ = Wa
        have HBa : Hid (Below w.heap.size w Wa) := by rw [← hWa]; exact one_al _ _
        have FA : Hid (Box Wa w.heap.size #[.slice a r.vb.length cap, .string r.kd, .string r.tm, .string r.pf]) := by rw [← hWa]; exact Box.new _ _ _ _ rfl
        clear hWa
        have HVa := hide (HV.out.below HBa.out)
        go_loopw [3] (fun i wr => ∃ k : Nat, i = .int .i64 k ∧ k ≤ r.vb.length ∧ Below Wa.heap.size Wa wr ∧ ∀ i, i < k → vAt r.vb i = true) (fun i _ => r.vb.length - (intOf i).toNat)
        case atStart => exact ⟨0, rfl, by omega, Below.refl _ _, fun i h => by omega⟩
        case round =>
          obtain ⟨k, rfl, hk, hb, hall⟩ := hrel
          have HA := hide hall
          have HB := hide hb
          clear hall hb
          have g0 : wr.cell? ⟨w.heap.size, 0, none⟩ = some (.slice a r.vb.length cap) := (FA.out.on HB.out).cell 0
          have g3 : wr.cell? ⟨w.heap.size, 3, none⟩ = some (.string r.pf) := (FA.out.on HB.out).cell 3
          have HX0 : Hid (Below w.heap.size w wr) := bt HBa.out HB.out
          obtain ⟨b, off, rfl, hbw, hc⟩ := (HVa.out.below HB.out).full' hpos
          by_cases hlt : k < r.vb.length
          · have c0 := hc k hlt
            cases hi : inB 1 5 r.vb[k] with
            | false =>
              have HR : Hid (ruleB r = false) := by unfold Hid ruleB; rw [vbs_no hlt (vAt_in hlt hi)]; rfl
              cases k with
              | zero =>
                have c0 : wr.cell? ⟨b, off, none⟩ = some (.int .i64 r.vb[0]) := by simpa using c0
                go_wp2
                go_quiet ((go_at_call 62; exact (in_any _ _ _ _).mono fun _ _ h => ⟨h.1, _, h.2⟩))
                go_wp2
                go_ret
                exact ⟨ret_bool HR.out.symm, below_drewN HX0.out _⟩
              | succ j =>
                go_wp2
                go_quiet ((go_at_call 62; exact (in_any _ _ _ _).mono fun _ _ h => ⟨h.1, _, h.2⟩))
                go_wp2
                go_ret
                exact ⟨ret_bool HR.out.symm, below_drewN HX0.out _⟩
            | true =>
              cases k with
              | zero =>
                have c0 : wr.cell? ⟨b, off, none⟩ = some (.int .i64 r.vb[0]) := by simpa using c0
                have HX : Hid (vAt r.vb 0 = true) := by unfold Hid; rw [vAt_zero hlt]; exact hi
                go_wp2
                go_quiet ((go_at_call 62; exact (in_any _ _ _ _).mono fun _ _ h => ⟨h.1, _, h.2⟩))
                go_wp2
                go_roundw
                case rel => exact ⟨1, by go_num, by omega, below_drewN HB.out _, v_one HX.out⟩
                case measure => simp [intOf]; omega
              | succ j =>
                have cj := hc j (by omega)
                have hjw : IntKind.i64.wrap (j : Int) = j := by rw [IntKind.wrap_i64]; omega
                have hjl : j < r.vb.length := by omega
                have hdl : decide ((j : Int) + 1 < (r.vb.length : Int)) = true := by simp; omega
                have cj3 : ∀ n, (wr.drewN n).cell? ⟨b, off + j, none⟩ = some (.int .i64 r.vb[j]) := fun n => cj
                have c03 : ∀ n, (wr.drewN n).cell? ⟨b, off + (j + 1), none⟩ = some (.int .i64 r.vb[j + 1]) := fun n => c0
                by_cases hls : r.vb[j] < r.vb[j + 1]
                · have HX : Hid (vAt r.vb (j + 1) = true) := by unfold Hid; rw [vAt_succ hlt, hi, decide_eq_true hls]; rfl
                  go_wp2
                  go_quiet ((go_at_call 62; exact (in_any _ _ _ _).mono fun _ _ h => ⟨h.1, _, h.2⟩))
                  go_wp2
                  go_roundw
                  case rel => exact ⟨j + 2, by go_num, by omega, below_drewN HB.out _, fun i hi => by
                                by_cases e : i = j + 1
                                · subst e; exact HX.out
                                · exact HA.out i (by omega)⟩
                  case measure => simp [intOf]; omega
                · have HR : Hid (ruleB r = false) := by unfold Hid ruleB; rw [vbs_no hlt (by rw [vAt_succ hlt, decide_eq_false hls]; simp)]; rfl
                  go_wp2
                  go_quiet ((go_at_call 62; exact (in_any _ _ _ _).mono fun _ _ h => ⟨h.1, _, h.2⟩))
                  go_wp2
                  go_ret
                  exact ⟨ret_bool HR.out.symm, below_drewN HX0.out _⟩
          · have HR : Hid (ruleB r = allB nameByte r.pf) := by
              unfold Hid ruleB
              rw [vbs_yes (by omega) HA.out, decide_eq_true HPOS.out, HKD.out, HTM.out, decide_eq_true h16]; rfl
            go_wp2
            go_loop [4] (fun i => ∃ q : Nat, q ≤ r.pf.size ∧ i = .int .i64 q ∧ (r.pf.data.toList.take q).all nameByte = true) (fun i => r.pf.size - (intOf i).toNat)
            case atStart => exact ⟨0, Nat.zero_le _, rfl, rfl⟩
            case round =>
              obtain ⟨q, hq, rfl, hallq⟩ := hrel
              have HAQ := hide hallq
              clear hallq
              by_cases hltq : q < r.pf.size
              · by_cases hn : nameByte r.pf[q] = true
                · go_wp2_with (go_at_call 131; refine (byte_any _ _).mono ?_; rintro e w' ⟨rfl, rfl⟩)
                  go_round
                  case rel => exact ⟨q + 1, by omega, by go_num, all_step HAQ.out hltq hn⟩
                  case measure => simp [intOf]; omega
                · have hn' : nameByte r.pf[q] = false := by simpa using hn
                  go_wp2_with (go_at_call 131; refine (byte_any _ _).mono ?_; rintro e w' ⟨rfl, rfl⟩)
                  go_ret
                  exact ⟨ret_bool (by rw [HR.out, all_stop hltq hn']), HX0.out⟩
              · go_wp2
                go_ret
                exact ⟨ret_bool (by rw [HR.out, all_end HAQ.out (by omega)]), HX0.out⟩
      | false =>
        have HTE : Hid (emptyOrName r.tm = nameB r.tm) := by unfold Hid emptyOrName; rw [h3]; rfl
        go_wp2_with fail
        refine (nameOk_any r.tm _ HZ.out.s2).mono ?_
        rintro e w2 ⟨rfl, rfl⟩
        cases h4 : nameB r.tm with
        | false =>
          have HR : Hid (ruleB r = false) := by unfold Hid ruleB; rw [HTE.out, h4]; simp
          go_wp2
          go_ret
          exact ⟨ret_bool HR.out.symm, one_al _ _⟩
        | true =>
          have HTM : Hid (emptyOrName r.tm = true) := by unfold Hid; rw [HTE.out, h4]
          go_wp2
          try simp only [hbl]
          try simp only [h2]
          try simp only [h4]
          generalize hWa : w.alloc _ = Wa
          have HBa : Hid (Below w.heap.size w Wa) := by rw [← hWa]; exact one_al _ _
          have FA : Hid (Box Wa w.heap.size #[.slice a r.vb.length cap, .string r.kd, .string r.tm, .string r.pf]) := by rw [← hWa]; exact Box.new _ _ _ _ rfl
          clear hWa
          have HVa := hide (HV.out.below HBa.out)
          go_loopw [3] (fun i wr => ∃ k : Nat, i = .int .i64 k ∧ k ≤ r.vb.length ∧ Below Wa.heap.size Wa wr ∧ ∀ i, i < k → vAt r.vb i = true) (fun i _ => r.vb.length - (intOf i).toNat)
          case atStart => exact ⟨0, rfl, by omega, Below.refl _ _, fun i h => by omega⟩
          case round =>
            obtain ⟨k, rfl, hk, hb, hall⟩ := hrel
            have HA := hide hall
            have HB := hide hb
            clear hall hb
            have g0 : wr.cell? ⟨w.heap.size, 0, none⟩ = some (.slice a r.vb.length cap) := (FA.out.on HB.out).cell 0
            have g3 : wr.cell? ⟨w.heap.size, 3, none⟩ = some (.string r.pf) := (FA.out.on HB.out).cell 3
            have HX0 : Hid (Below w.heap.size w wr) := bt HBa.out HB.out
            obtain ⟨b, off, rfl, hbw, hc⟩ := (HVa.out.below HB.out).full' hpos
            by_cases hlt : k < r.vb.length
            · have c0 := hc k hlt
              cases hi : inB 1 5 r.vb[k] with
              | false =>
                have HR : Hid (ruleB r = false) := by unfold Hid ruleB; rw [vbs_no hlt (vAt_in hlt hi)]; rfl
                cases k with
                | zero =>
                  have c0 : wr.cell? ⟨b, off, none⟩ = some (.int .i64 r.vb[0]) := by simpa using c0
                  go_wp2
                  go_quiet ((go_at_call 62; exact (in_any _ _ _ _).mono fun _ _ h => ⟨h.1, _, h.2⟩))
                  go_wp2
                  go_ret
                  exact ⟨ret_bool HR.out.symm, below_drewN HX0.out _⟩
                | succ j =>
                  go_wp2
                  go_quiet ((go_at_call 62; exact (in_any _ _ _ _).mono fun _ _ h => ⟨h.1, _, h.2⟩))
                  go_wp2
                  go_ret
                  exact ⟨ret_bool HR.out.symm, below_drewN HX0.out _⟩
              | true =>
                cases k with
                | zero =>
                  have c0 : wr.cell? ⟨b, off, none⟩ = some (.int .i64 r.vb[0]) := by simpa using c0
                  have HX : Hid (vAt r.vb 0 = true) := by unfold Hid; rw [vAt_zero hlt]; exact hi
                  go_wp2
                  go_quiet ((go_at_call 62; exact (in_any _ _ _ _).mono fun _ _ h => ⟨h.1, _, h.2⟩))
                  go_wp2
                  go_roundw
                  case rel => exact ⟨1, by go_num, by omega, below_drewN HB.out _, v_one HX.out⟩
                  case measure => simp [intOf]; omega
                | succ j =>
                  have cj := hc j (by omega)
                  have hjw : IntKind.i64.wrap (j : Int) = j := by rw [IntKind.wrap_i64]; omega
                  have hjl : j < r.vb.length := by omega
                  have hdl : decide ((j : Int) + 1 < (r.vb.length : Int)) = true := by simp; omega
                  have cj3 : ∀ n, (wr.drewN n).cell? ⟨b, off + j, none⟩ = some (.int .i64 r.vb[j]) := fun n => cj
                  have c03 : ∀ n, (wr.drewN n).cell? ⟨b, off + (j + 1), none⟩ = some (.int .i64 r.vb[j + 1]) := fun n => c0
                  by_cases hls : r.vb[j] < r.vb[j + 1]
                  · have HX : Hid (vAt r.vb (j + 1) = true) := by unfold Hid; rw [vAt_succ hlt, hi, decide_eq_true hls]; rfl
                    go_wp2
                    go_quiet ((go_at_call 62; exact (in_any _ _ _ _).mono fun _ _ h => ⟨h.1, _, h.2⟩))
                    go_wp2
                    go_roundw
                    case rel => exact ⟨j + 2, by go_num, by omega, below_drewN HB.out _, fun i hi => by
                                  by_cases e : i = j + 1
                                  · subst e; exact HX.out
                                  · exact HA.out i (by omega)⟩
                    case measure => simp [intOf]; omega
                  · have HR : Hid (ruleB r = false) := by unfold Hid ruleB; rw [vbs_no hlt (by rw [vAt_succ hlt, decide_eq_false hls]; simp)]; rfl
                    go_wp2
                    go_quiet ((go_at_call 62; exact (in_any _ _ _ _).mono fun _ _ h => ⟨h.1, _, h.2⟩))
                    go_wp2
                    go_ret
                    exact ⟨ret_bool HR.out.symm, below_drewN HX0.out _⟩
            · have HR : Hid (ruleB r = allB nameByte r.pf) := by
                unfold Hid ruleB
                rw [vbs_yes (by omega) HA.out, decide_eq_true HPOS.out, HKD.out, HTM.out, decide_eq_true h16]; rfl
              go_wp2
              go_loop [4] (fun i => ∃ q : Nat, q ≤ r.pf.size ∧ i = .int .i64 q ∧ (r.pf.data.toList.take q).all nameByte = true) (fun i => r.pf.size - (intOf i).toNat)
              case atStart => exact ⟨0, Nat.zero_le _, rfl, rfl⟩
              case round =>
                obtain ⟨q, hq, rfl, hallq⟩ := hrel
                have HAQ := hide hallq
                clear hallq
                by_cases hltq : q < r.pf.size
                · by_cases hn : nameByte r.pf[q] = true
                  · go_wp2_with (go_at_call 131; refine (byte_any _ _).mono ?_; rintro e w' ⟨rfl, rfl⟩)
                    go_round
                    case rel => exact ⟨q + 1, by omega, by go_num, all_step HAQ.out hltq hn⟩
                    case measure => simp [intOf]; omega
                  · have hn' : nameByte r.pf[q] = false := by simpa using hn
                    go_wp2_with (go_at_call 131; refine (byte_any _ _).mono ?_; rintro e w' ⟨rfl, rfl⟩)
                    go_ret
                    exact ⟨ret_bool (by rw [HR.out, all_stop hltq hn']), HX0.out⟩
                · go_wp2
                  go_ret
                  exact ⟨ret_bool (by rw [HR.out, all_end HAQ.out (by omega)]), HX0.out⟩
end Go.Proofs.YthfdfdlojfdckaaGreat

namespace Go.Proofs.YthfdfdlojfdckaaGreat
open Go.RowKit Go.Deep

set_option maxRecDepth 20000 in
set_option maxHeartbeats 4000000 in
theorem l4Allows_any (lo lr : Nat) (tv vv : Value) (Ts : List Tm) (r : Ru) (v : Int) (kind team name : ByteArray) (w : World) (hT : TmsAt lo w tv Ts) (hv : IntsIn lr w vv r.vb) :
    Calls Tryz.prog 67 #[tv, .agg #[vv, .string r.kd, .string r.tm, .string r.pf], .agg #[.int .i64 v, .string kind, .string team, .string name]] w
      fun e w' => e = .returned (.bool (givesP Ts r kind team name v)) ∧ Below w.heap.size w w' := by
  have HT := hide hT
  have HV := hide hv
  obtain ⟨ta, tcap, rfl⟩ := hT.form
  obtain ⟨a, cap, rfl⟩ := hv.form
  clear hT hv
  go_enter Tryz.func67, Tryz.ntmps67
  go_wp2_with fail
  generalize hWa : (World.alloc (w.alloc _) _) = Wa
  have HBa : Hid (Below w.heap.size w Wa) := by rw [← hWa]; exact (one_al w _).alloc (by simp) _
  have FA : Hid (Box Wa w.heap.size #[.slice a r.vb.length cap, .string r.kd, .string r.tm, .string r.pf]) := by rw [← hWa]; exact (Box.new _ _ _ _ rfl).on (one_al _ _)
  have FB : Hid (Box Wa (w.heap.size + 1) #[.int .i64 v, .string kind, .string team, .string name]) := by rw [← hWa]; exact Box.new _ _ _ _ (by simp)
  clear hWa
  refine (l4Verb_any lr r _ v _ (HV.out.below HBa.out)).mono ?_
  rintro e w1 ⟨rfl, hb1⟩
  have HB1 : Hid (Below w.heap.size w w1) := bt HBa.out hb1
  replace FA := hide (FA.out.on hb1)
  replace FB := hide (FB.out.on hb1)
  clear hb1 HBa
  have a1 : w1.cell? ⟨w.heap.size, 1, none⟩ = some (.string r.kd) := FA.out.cell 1
  have a2 : w1.cell? ⟨w.heap.size, 2, none⟩ = some (.string r.tm) := FA.out.cell 2
  have a3 : w1.cell? ⟨w.heap.size, 3, none⟩ = some (.string r.pf) := FA.out.cell 3
  have b1 : w1.cell? ⟨w.heap.size + 1, 1, none⟩ = some (.string kind) := FB.out.cell 1
  have b2 : w1.cell? ⟨w.heap.size + 1, 2, none⟩ = some (.string team) := FB.out.cell 2
  have b3 : w1.cell? ⟨w.heap.size + 1, 3, none⟩ = some (.string name) := FB.out.cell 3
  cases h0 : hasV r.vb v with
  | false =>
    have HR : Hid (givesP Ts r kind team name v = false) := by unfold Hid givesP matchB; simp [h0]
    go_wp2
    go_ret
    exact ⟨ret_bool HR.out.symm, HB1.out⟩
  | true =>
    cases h1 : r.kd.toList.isEmpty with
    | true =>
      cases h3 : r.tm.toList.isEmpty with
      | true =>
        go_wp2_with fail
        refine (l4Begins_any name r.pf _).mono ?_
        rintro e w3 ⟨rfl, rfl⟩
        have HR : Hid (givesP Ts r kind team name v = beginsB name r.pf) := by unfold Hid givesP matchB; simp [h0, h1, h3]
        go_wp2
        go_ret
        exact ⟨ret_bool HR.out.symm, HB1.out⟩
      | false =>
        go_wp2_with fail
        refine (specUnder_any lo _ Ts team r.tm _ (HT.out.below HB1.out)).mono ?_
        rintro e w2 ⟨rfl, hb2⟩
        replace HB1 : Hid (Below w.heap.size w w2) := bt HB1.out hb2
        replace FA := hide (FA.out.on hb2)
        replace FB := hide (FB.out.on hb2)
        clear hb2 a1 a2 a3 b1 b2 b3
        have a3 : w2.cell? ⟨w.heap.size, 3, none⟩ = some (.string r.pf) := FA.out.cell 3
        have b3 : w2.cell? ⟨w.heap.size + 1, 3, none⟩ = some (.string name) := FB.out.cell 3
        cases h4 : underB Ts team r.tm with
        | false =>
          have HR : Hid (givesP Ts r kind team name v = false) := by unfold Hid givesP matchB; simp [h0, h1, h3, h4]
          go_wp2
          go_ret
          exact ⟨ret_bool HR.out.symm, HB1.out⟩
        | true =>
          go_wp2_with fail
          refine (l4Begins_any name r.pf _).mono ?_
          rintro e w3 ⟨rfl, rfl⟩
          have HR : Hid (givesP Ts r kind team name v = beginsB name r.pf) := by unfold Hid givesP matchB; simp [h0, h1, h3, h4]
          go_wp2
          go_ret
          exact ⟨ret_bool HR.out.symm, HB1.out⟩
    | false =>
      cases h2 : (r.kd.toList == kind.toList) with
      | false =>
        have HR : Hid (givesP Ts r kind team name v = false) := by unfold Hid givesP matchB; rw [h1, h2]; rfl
        go_wp2
        go_ret
        exact ⟨ret_bool HR.out.symm, HB1.out⟩
      | true =>
        cases h3 : r.tm.toList.isEmpty with
        | true =>
          go_wp2_with fail
          refine (l4Begins_any name r.pf _).mono ?_
          rintro e w3 ⟨rfl, rfl⟩
          have HR : Hid (givesP Ts r kind team name v = beginsB name r.pf) := by unfold Hid givesP matchB; rw [h2]; simp [h0, h1, h3]
          go_wp2
          go_ret
          exact ⟨ret_bool HR.out.symm, HB1.out⟩
        | false =>
          go_wp2_with fail
          refine (specUnder_any lo _ Ts team r.tm _ (HT.out.below HB1.out)).mono ?_
          rintro e w2 ⟨rfl, hb2⟩
          replace HB1 : Hid (Below w.heap.size w w2) := bt HB1.out hb2
          replace FA := hide (FA.out.on hb2)
          replace FB := hide (FB.out.on hb2)
          clear hb2 a1 a2 a3 b1 b2 b3
          have a3 : w2.cell? ⟨w.heap.size, 3, none⟩ = some (.string r.pf) := FA.out.cell 3
          have b3 : w2.cell? ⟨w.heap.size + 1, 3, none⟩ = some (.string name) := FB.out.cell 3
          cases h4 : underB Ts team r.tm with
          | false =>
            have HR : Hid (givesP Ts r kind team name v = false) := by unfold Hid givesP matchB; rw [h2]; simp [h0, h1, h3, h4]
            go_wp2
            go_ret
            exact ⟨ret_bool HR.out.symm, HB1.out⟩
          | true =>
            go_wp2_with fail
            refine (l4Begins_any name r.pf _).mono ?_
            rintro e w3 ⟨rfl, rfl⟩
            have HR : Hid (givesP Ts r kind team name v = beginsB name r.pf) := by unfold Hid givesP matchB; rw [h2]; simp [h0, h1, h3, h4]
            go_wp2
            go_ret
            exact ⟨ret_bool HR.out.symm, HB1.out⟩

set_option maxHeartbeats 1000000 in
theorem szAct_any (v : Int) (k t n : ByteArray) (left : Int) (w : World) (h0 : 0 ≤ left) (h1 : left ≤ 1048576)
    (s0 : k.size ≤ maxLen) (s1 : t.size ≤ maxLen) (s2 : n.size ≤ maxLen) :
    Calls Tryz.prog 7 #[.agg #[.int .i64 v, .string k, .string t, .string n], .int .i64 left] w
      fun e w' => ∃ r : Int, e = .returned (.int .i64 r) ∧ Below w.heap.size w w' ∧ -1 ≤ r ∧ r ≤ left := by
  unfold maxLen at s0 s1 s2
  have HW : ∀ o, Hid (Below w.heap.size w (w.alloc o)) := fun o => one_al _ _
  go_enter Tryz.func7, Tryz.ntmps7
  go_wp2
  all_goals go_ret
  all_goals exact ⟨_, rfl, (HW _).out, by omega, by omega⟩
set_option maxHeartbeats 1000000 in
theorem toAct_any (v : Int) (k t n : ByteArray) (w : World) :
    Calls Tryz.prog 11 #[.agg #[.int .i64 v, .string k, .string t, .string n]] w
      fun e w' => e = .returned (.agg #[.int .i64 v, .string k, .string t, .string n]) ∧ Below w.heap.size w w' := by
  go_enter Tryz.func11, Tryz.ntmps11
  go_wp2
  refine bodyPost_ret (v := .agg #[.int .i64 v, .string k, .string t, .string n]) (by simp [results, Tryz.results11, go_sem]) rfl ⟨rfl, ?_⟩
  repeat (refine Below.setCell ?_ (by simp only []; omega) _)
  exact (((Below.refl _ _).alloc (Nat.le_refl _) _).alloc (by simp) _).alloc (by simp; omega) _
end Go.Proofs.YthfdfdlojfdckaaGreat

