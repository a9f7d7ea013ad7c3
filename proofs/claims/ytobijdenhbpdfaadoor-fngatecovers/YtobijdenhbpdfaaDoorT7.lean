import Derived.Test.YtobijdenhbpdfaaDoorT6
namespace Go.Proofs.YtobijdenhbpdfaaDoor
open Go.RowKit Go.Deep

set_option maxHeartbeats 400000 in
theorem rightOf_any (tv vv : Value) (r : Ru) (nt : Nat) (a : Option Addr) (cap : Nat) (a' : Option Addr) (cap' : Nat) (ht : tv = .slice a nt cap) (hvv : vv = .slice a' r.vb.length cap') (w : World) :
    Calls Tryd.prog 35 #[tv, .agg #[vv, .string r.kd, .string r.tm, .string r.pf]] w fun e w' => e = .returned (.func (.func 55) #[.agg #[tv, vv, .string r.kd, .string r.tm, .string r.pf]] #[]) ∧ Below w.heap.size w w' := by
  subst hvv ht
  go_enter Tryd.func35, Tryd.ntmps35
  go_wp2
  go_ret
  exact ⟨rfl, one_al _ _⟩

set_option maxHeartbeats 2000000 in
theorem gives_any (lo lr : Nat) (tv vv : Value) (Ts : List Tm) (r : Ru) (kind team name : ByteArray) (w : World) (hT : TmsAt lo w tv Ts) (hv : IntsIn lr w vv r.vb) :
    Calls Tryd.prog 55 #[.agg #[tv, vv, .string r.kd, .string r.tm, .string r.pf], .string kind, .string team, .string name] w
      fun e w' => e = .returned (.int .u8 (num (givesP Ts r kind team name))) ∧ Below w.heap.size w w' := by
  have HT := hide hT
  have HV := hide hv
  obtain ⟨ta, tcap, rfl⟩ := hT.form
  obtain ⟨a, cap, rfl⟩ := hv.form
  clear hT hv
  by_cases q1 : (!r.kd.toList.isEmpty && !(r.kd.toList == kind.toList)) = true
  · rw [Bool.and_eq_true] at q1
    have e1 : r.kd.toList.isEmpty = false := by simpa using q1.1
    have e2 : (r.kd.toList == kind.toList) = false := by rw [← Bool.not_eq_true']; exact q1.2
    have HR : Hid (num (givesP Ts r kind team name) = 0) := gives_no (by unfold matchB; rw [e1, e2]; rfl)
    clear q1
    go_enter Tryd.func55, Tryd.ntmps55
    go_wp2
    go_ret
    exact ⟨ret_u8 HR.out.symm, one_al _ _⟩
  have HK : Hid ((r.kd.toList.isEmpty || r.kd.toList == kind.toList) = true) := by
    unfold Hid
    cases h1 : r.kd.toList.isEmpty <;> cases h2 : (r.kd.toList == kind.toList) <;> simp_all
  have HE : Hid (matchB Ts r kind team name = ((r.tm.toList.isEmpty || underB Ts team r.tm) && beginsB name r.pf)) := by unfold Hid matchB; rw [HK.out]; rfl
  have hk : r.kd.toList.isEmpty = true ∨ (r.kd.toList.isEmpty = false ∧ (r.kd.toList == kind.toList) = true) := by
    have := HK.out
    cases h1 : r.kd.toList.isEmpty <;> cases h2 : (r.kd.toList == kind.toList) <;> simp_all
  clear q1 HK
  rcases hk with h1 | ⟨h1, h2⟩
  · cases h3 : r.tm.toList.isEmpty with
    | true =>
      go_enter Tryd.func55, Tryd.ntmps55
      go_wp2_with fail
      generalize hWa : w.alloc _ = Wa
      have HBa : Hid (Below w.heap.size w Wa) := by rw [← hWa]; exact one_al _ _
      have FA : Hid (Box Wa w.heap.size #[.slice ta Ts.length tcap, .slice a r.vb.length cap, .string r.kd, .string r.tm, .string r.pf]) := by rw [← hWa]; exact Box.new _ _ _ _ rfl
      clear hWa
      have a1 : Wa.cell? ⟨w.heap.size, 1, none⟩ = some (.slice a r.vb.length cap) := FA.out.cell 1
      have a4 : Wa.cell? ⟨w.heap.size, 4, none⟩ = some (.string r.pf) := FA.out.cell 4
      refine (hasPrefix_any name r.pf _).mono ?_
      rintro e w2 ⟨rfl, rfl⟩
      cases hq : beginsB name r.pf with
      | false =>
        have HR : Hid (num (givesP Ts r kind team name) = 0) := gives_no (by rw [HE.out, hq]; simp)
        go_wp2
        go_ret
        exact ⟨ret_u8 HR.out.symm, HBa.out⟩
      | true =>
        have HR : Hid (num (givesP Ts r kind team name) = num (hasV r.vb)) := gives_yes (by rw [HE.out, hq]; simp [h3])
        go_wp2_with fail
        refine (verbsOf_any lr _ r.vb _ (HV.out.below HBa.out)).mono ?_
        rintro e w3 ⟨rfl, rfl⟩
        go_wp2
        go_ret
        exact ⟨ret_u8 HR.out.symm, HBa.out⟩
    | false =>
      go_enter Tryd.func55, Tryd.ntmps55
      go_wp2_with fail
      generalize hWa : w.alloc _ = Wa
      have HBa : Hid (Below w.heap.size w Wa) := by rw [← hWa]; exact one_al _ _
      have FA : Hid (Box Wa w.heap.size #[.slice ta Ts.length tcap, .slice a r.vb.length cap, .string r.kd, .string r.tm, .string r.pf]) := by rw [← hWa]; exact Box.new _ _ _ _ rfl
      clear hWa
      refine (implUnder_any lo _ Ts team r.tm _ (HT.out.below HBa.out)).mono ?_
      rintro e w1 ⟨rfl, hb1⟩
      replace FA := hide (FA.out.on hb1)
      replace HBa : Hid (Below w.heap.size w w1) := HBa.out.trans (hb1.mono HBa.out.size)
      clear hb1
      have a1 : w1.cell? ⟨w.heap.size, 1, none⟩ = some (.slice a r.vb.length cap) := FA.out.cell 1
      have a4 : w1.cell? ⟨w.heap.size, 4, none⟩ = some (.string r.pf) := FA.out.cell 4
      cases h4 : underB Ts team r.tm with
      | false =>
        have HR : Hid (num (givesP Ts r kind team name) = 0) := gives_no (by rw [HE.out, h3, h4]; rfl)
        go_wp2
        go_ret
        exact ⟨ret_u8 HR.out.symm, HBa.out⟩
      | true =>
        go_wp2_with fail
        refine (hasPrefix_any name r.pf _).mono ?_
        rintro e w2 ⟨rfl, rfl⟩
        cases hq : beginsB name r.pf with
        | false =>
          have HR : Hid (num (givesP Ts r kind team name) = 0) := gives_no (by rw [HE.out, hq]; simp)
          go_wp2
          go_ret
          exact ⟨ret_u8 HR.out.symm, HBa.out⟩
        | true =>
          have HR : Hid (num (givesP Ts r kind team name) = num (hasV r.vb)) := gives_yes (by rw [HE.out, hq]; simp [h3, h4])
          go_wp2_with fail
          refine (verbsOf_any lr _ r.vb _ (HV.out.below HBa.out)).mono ?_
          rintro e w3 ⟨rfl, rfl⟩
          go_wp2
          go_ret
          exact ⟨ret_u8 HR.out.symm, HBa.out⟩
  · cases h3 : r.tm.toList.isEmpty with
    | true =>
      go_enter Tryd.func55, Tryd.ntmps55
      go_wp2_with fail
      generalize hWa : w.alloc _ = Wa
      have HBa : Hid (Below w.heap.size w Wa) := by rw [← hWa]; exact one_al _ _
      have FA : Hid (Box Wa w.heap.size #[.slice ta Ts.length tcap, .slice a r.vb.length cap, .string r.kd, .string r.tm, .string r.pf]) := by rw [← hWa]; exact Box.new _ _ _ _ rfl
      clear hWa
      have a1 : Wa.cell? ⟨w.heap.size, 1, none⟩ = some (.slice a r.vb.length cap) := FA.out.cell 1
      have a4 : Wa.cell? ⟨w.heap.size, 4, none⟩ = some (.string r.pf) := FA.out.cell 4
      refine (hasPrefix_any name r.pf _).mono ?_
      rintro e w2 ⟨rfl, rfl⟩
      cases hq : beginsB name r.pf with
      | false =>
        have HR : Hid (num (givesP Ts r kind team name) = 0) := gives_no (by rw [HE.out, hq]; simp)
        go_wp2
        go_ret
        exact ⟨ret_u8 HR.out.symm, HBa.out⟩
      | true =>
        have HR : Hid (num (givesP Ts r kind team name) = num (hasV r.vb)) := gives_yes (by rw [HE.out, hq]; simp [h3])
        go_wp2_with fail
        refine (verbsOf_any lr _ r.vb _ (HV.out.below HBa.out)).mono ?_
        rintro e w3 ⟨rfl, rfl⟩
        go_wp2
        go_ret
        exact ⟨ret_u8 HR.out.symm, HBa.out⟩
    | false =>
      go_enter Tryd.func55, Tryd.ntmps55
      go_wp2_with fail
      generalize hWa : w.alloc _ = Wa
      have HBa : Hid (Below w.heap.size w Wa) := by rw [← hWa]; exact one_al _ _
      have FA : Hid (Box Wa w.heap.size #[.slice ta Ts.length tcap, .slice a r.vb.length cap, .string r.kd, .string r.tm, .string r.pf]) := by rw [← hWa]; exact Box.new _ _ _ _ rfl
      clear hWa
      refine (implUnder_any lo _ Ts team r.tm _ (HT.out.below HBa.out)).mono ?_
      rintro e w1 ⟨rfl, hb1⟩
      replace FA := hide (FA.out.on hb1)
      replace HBa : Hid (Below w.heap.size w w1) := HBa.out.trans (hb1.mono HBa.out.size)
      clear hb1
      have a1 : w1.cell? ⟨w.heap.size, 1, none⟩ = some (.slice a r.vb.length cap) := FA.out.cell 1
      have a4 : w1.cell? ⟨w.heap.size, 4, none⟩ = some (.string r.pf) := FA.out.cell 4
      cases h4 : underB Ts team r.tm with
      | false =>
        have HR : Hid (num (givesP Ts r kind team name) = 0) := gives_no (by rw [HE.out, h3, h4]; rfl)
        go_wp2
        go_ret
        exact ⟨ret_u8 HR.out.symm, HBa.out⟩
      | true =>
        go_wp2_with fail
        refine (hasPrefix_any name r.pf _).mono ?_
        rintro e w2 ⟨rfl, rfl⟩
        cases hq : beginsB name r.pf with
        | false =>
          have HR : Hid (num (givesP Ts r kind team name) = 0) := gives_no (by rw [HE.out, hq]; simp)
          go_wp2
          go_ret
          exact ⟨ret_u8 HR.out.symm, HBa.out⟩
        | true =>
          have HR : Hid (num (givesP Ts r kind team name) = num (hasV r.vb)) := gives_yes (by rw [HE.out, hq]; simp [h3, h4])
          go_wp2_with fail
          refine (verbsOf_any lr _ r.vb _ (HV.out.below HBa.out)).mono ?_
          rintro e w3 ⟨rfl, rfl⟩
          go_wp2
          go_ret
          exact ⟨ret_u8 HR.out.symm, HBa.out⟩
end Go.Proofs.YtobijdenhbpdfaaDoor

