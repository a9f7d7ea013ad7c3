import Derived.Test.YtfajekibnjdlmaaT9
namespace Go.Proofs.Ytfajekibnjdlmaa
open Go.RowKit Go.Deep

set_option maxRecDepth 20000 in
set_option maxHeartbeats 4000000 in
theorem l4Allows_any (lo lr : Nat) (tv vv : Value) (Ts : List Tm) (r : Ru) (v : Int) (kind team name : ByteArray) (w : World) (hT : TmsAt lo w tv Ts) (hv : IntsIn lr w vv r.vb) :
    Calls Try.prog 38 #[tv, .agg #[vv, .string r.kd, .string r.tm, .string r.pf], .agg #[.int .i64 v, .string kind, .string team, .string name]] w
      fun e w' => e = .returned (.bool (givesP Ts r kind team name v)) ∧ Below w.heap.size w w' := by
  have HT := hide hT
  have HV := hide hv
  obtain ⟨ta, tcap, rfl⟩ := hT.form
  obtain ⟨a, cap, rfl⟩ := hv.form
  clear hT hv
  go_enter Try.func38, Try.ntmps38
  go_wp2_with fail
  generalize hWa : (World.alloc (w.alloc _) _) = Wa
  have HBa : Hid (Below w.heap.size w Wa) := by rw [← hWa]; exact (one_al w _).alloc (by simp) _
  have FA : Hid (Box Wa w.heap.size #[.slice a r.vb.length cap, .string r.kd, .string r.tm, .string r.pf]) := by rw [← hWa]; exact (Box.new _ _ _ _ rfl).on (one_al _ _)
  have FB : Hid (Box Wa (w.heap.size + 1) #[.int .i64 v, .string kind, .string team, .string name]) := by rw [← hWa]; exact Box.new _ _ _ _ (by simp)
  clear hWa
  refine (l4Verb_any lr r _ v _ (HV.out.below HBa.out)).mono ?_
  rintro e w1 ⟨rfl, hb1⟩
  have HB1 : Hid (Below w.heap.size w w1) := bt HBa.out hb1
  replace FA := hide (FA.out.on hb1)
  replace FB := hide (FB.out.on hb1)
  clear hb1 HBa
  have a1 : w1.cell? ⟨w.heap.size, 1, none⟩ = some (.string r.kd) := FA.out.cell 1
  have a2 : w1.cell? ⟨w.heap.size, 2, none⟩ = some (.string r.tm) := FA.out.cell 2
  have a3 : w1.cell? ⟨w.heap.size, 3, none⟩ = some (.string r.pf) := FA.out.cell 3
  have b1 : w1.cell? ⟨w.heap.size + 1, 1, none⟩ = some (.string kind) := FB.out.cell 1
  have b2 : w1.cell? ⟨w.heap.size + 1, 2, none⟩ = some (.string team) := FB.out.cell 2
  have b3 : w1.cell? ⟨w.heap.size + 1, 3, none⟩ = some (.string name) := FB.out.cell 3
  cases h0 : hasV r.vb v with
  | false =>
    have HR : Hid (givesP Ts r kind team name v = false) := by unfold Hid givesP matchB; simp [h0]
    go_wp2
    go_ret
    exact ⟨ret_bool HR.out.symm, HB1.out⟩
  | true =>
    cases h1 : r.kd.toList.isEmpty with
    | true =>
      cases h3 : r.tm.toList.isEmpty with
      | true =>
        go_wp2_with fail
        refine (l4Begins_any name r.pf _).mono ?_
        rintro e w3 ⟨rfl, rfl⟩
        have HR : Hid (givesP Ts r kind team name v = beginsB name r.pf) := by unfold Hid givesP matchB; simp [h0, h1, h3]
        go_wp2
        go_ret
        exact ⟨ret_bool HR.out.symm, HB1.out⟩
      | false =>
        go_wp2_with fail
        refine (specUnder_any lo _ Ts team r.tm _ (HT.out.below HB1.out)).mono ?_
        rintro e w2 ⟨rfl, hb2⟩
        replace HB1 : Hid (Below w.heap.size w w2) := bt HB1.out hb2
        replace FA := hide (FA.out.on hb2)
        replace FB := hide (FB.out.on hb2)
        clear hb2 a1 a2 a3 b1 b2 b3
        have a3 : w2.cell? ⟨w.heap.size, 3, none⟩ = some (.string r.pf) := FA.out.cell 3
        have b3 : w2.cell? ⟨w.heap.size + 1, 3, none⟩ = some (.string name) := FB.out.cell 3
        cases h4 : underB Ts team r.tm with
        | false =>
          have HR : Hid (givesP Ts r kind team name v = false) := by unfold Hid givesP matchB; simp [h0, h1, h3, h4]
          go_wp2
          go_ret
          exact ⟨ret_bool HR.out.symm, HB1.out⟩
        | true =>
          go_wp2_with fail
          refine (l4Begins_any name r.pf _).mono ?_
          rintro e w3 ⟨rfl, rfl⟩
          have HR : Hid (givesP Ts r kind team name v = beginsB name r.pf) := by unfold Hid givesP matchB; simp [h0, h1, h3, h4]
          go_wp2
          go_ret
          exact ⟨ret_bool HR.out.symm, HB1.out⟩
    | false =>
      cases h2 : (r.kd.toList == kind.toList) with
      | false =>
        have HR : Hid (givesP Ts r kind team name v = false) := by unfold Hid givesP matchB; rw [h1, h2]; rfl
        go_wp2
        go_ret
        exact ⟨ret_bool HR.out.symm, HB1.out⟩
      | true =>
        cases h3 : r.tm.toList.isEmpty with
        | true =>
          go_wp2_with fail
          refine (l4Begins_any name r.pf _).mono ?_
          rintro e w3 ⟨rfl, rfl⟩
          have HR : Hid (givesP Ts r kind team name v = beginsB name r.pf) := by unfold Hid givesP matchB; rw [h2]; simp [h0, h1, h3]
          go_wp2
          go_ret
          exact ⟨ret_bool HR.out.symm, HB1.out⟩
        | false =>
          go_wp2_with fail
          refine (specUnder_any lo _ Ts team r.tm _ (HT.out.below HB1.out)).mono ?_
          rintro e w2 ⟨rfl, hb2⟩
          replace HB1 : Hid (Below w.heap.size w w2) := bt HB1.out hb2
          replace FA := hide (FA.out.on hb2)
          replace FB := hide (FB.out.on hb2)
          clear hb2 a1 a2 a3 b1 b2 b3
          have a3 : w2.cell? ⟨w.heap.size, 3, none⟩ = some (.string r.pf) := FA.out.cell 3
          have b3 : w2.cell? ⟨w.heap.size + 1, 3, none⟩ = some (.string name) := FB.out.cell 3
          cases h4 : underB Ts team r.tm with
          | false =>
            have HR : Hid (givesP Ts r kind team name v = false) := by unfold Hid givesP matchB; rw [h2]; simp [h0, h1, h3, h4]
            go_wp2
            go_ret
            exact ⟨ret_bool HR.out.symm, HB1.out⟩
          | true =>
            go_wp2_with fail
            refine (l4Begins_any name r.pf _).mono ?_
            rintro e w3 ⟨rfl, rfl⟩
            have HR : Hid (givesP Ts r kind team name v = beginsB name r.pf) := by unfold Hid givesP matchB; rw [h2]; simp [h0, h1, h3, h4]
            go_wp2
            go_ret
            exact ⟨ret_bool HR.out.symm, HB1.out⟩

set_option maxRecDepth 20000 in
set_option maxHeartbeats 2000000 in
theorem specAllows_any (lo lr : Nat) (tv vv : Value) (Ts : List Tm) (r : Ru) (v : Int) (kind team name : ByteArray) (w : World) (hT : TmsAt lo w tv Ts) (hv : IntsIn lr w vv r.vb) (hz : RuSize r) :
    Calls Try.prog 16 #[tv, .agg #[vv, .string r.kd, .string r.tm, .string r.pf], .agg #[.int .i64 v, .string kind, .string team, .string name]] w
      fun e w' => e = .returned (.bool (allowsB Ts r v kind team name)) ∧ Below w.heap.size w w' := by
  have HT := hide hT
  have HV := hide hv
  have HZ := hide hz
  obtain ⟨ta, tcap, rfl⟩ := hT.form
  obtain ⟨a, cap, rfl⟩ := hv.form
  clear hT hv hz
  go_enter Try.func16, Try.ntmps16
  go_wp2_with fail
  generalize hWa : (World.alloc (w.alloc _) _) = Wa
  have HBa : Hid (Below w.heap.size w Wa) := by rw [← hWa]; exact (one_al w _).alloc (by simp) _
  have FA : Hid (Box Wa w.heap.size #[.slice a r.vb.length cap, .string r.kd, .string r.tm, .string r.pf]) := by rw [← hWa]; exact (Box.new _ _ _ _ rfl).on (one_al _ _)
  have FB : Hid (Box Wa (w.heap.size + 1) #[.int .i64 v, .string kind, .string team, .string name]) := by rw [← hWa]; exact Box.new _ _ _ _ (by simp)
  clear hWa
  refine (specTeams_any lo _ Ts _ (HT.out.below HBa.out)).mono ?_
  rintro e w1 ⟨rfl, hb1⟩
  have HB1 : Hid (Below w.heap.size w w1) := bt HBa.out hb1
  replace FA := hide (FA.out.on hb1)
  replace FB := hide (FB.out.on hb1)
  clear hb1 HBa
  cases q1 : teamsB Ts with
  | false =>
    have HR : Hid (allowsB Ts r v kind team name = false) := by unfold Hid allowsB; rw [q1]; rfl
    go_wp2
    go_ret
    exact ⟨ret_bool HR.out.symm, HB1.out⟩
  | true =>
    have g0 := FA.out.cell
    have gl := FA.out.lt
    go_wp2_with fail
    clear g0 gl
    refine (specRule_any lr r _ _ (HV.out.below HB1.out) HZ.out).mono ?_
    rintro e w2 ⟨rfl, hb2⟩
    have HB2 : Hid (Below w.heap.size w w2) := bt HB1.out hb2
    replace FA := hide (FA.out.on hb2)
    replace FB := hide (FB.out.on hb2)
    clear hb2 HB1
    cases q2 : ruleB r with
    | false =>
      have HR : Hid (allowsB Ts r v kind team name = false) := by unfold Hid allowsB; rw [q1, q2]; rfl
      go_wp2
      go_ret
      exact ⟨ret_bool HR.out.symm, HB2.out⟩
    | true =>
      have HR : Hid (allowsB Ts r v kind team name = givesP Ts r kind team name v) := by unfold Hid allowsB; rw [q1, q2]; rfl
      have g0 := FA.out.cell
      have gl := FA.out.lt
      have g1 := FB.out.cell
      have gm := FB.out.lt
      go_wp2_with fail
      clear g0 gl g1 gm
      refine (l4Allows_any lo lr _ _ Ts r v kind team name _ (HT.out.below HB2.out) (HV.out.below HB2.out)).mono ?_
      rintro e w3 ⟨rfl, hb3⟩
      have HB3 : Hid (Below w.heap.size w w3) := bt HB2.out hb3
      clear hb3
      go_wp2
      go_ret
      exact ⟨ret_bool HR.out.symm, HB3.out⟩

set_option maxHeartbeats 1000000 in
theorem szAct_any (v : Int) (k t n : ByteArray) (left : Int) (w : World) (h0 : 0 ≤ left) (h1 : left ≤ 1048576)
    (s0 : k.size ≤ maxLen) (s1 : t.size ≤ maxLen) (s2 : n.size ≤ maxLen) :
    Calls Try.prog 15 #[.agg #[.int .i64 v, .string k, .string t, .string n], .int .i64 left] w
      fun e w' => ∃ r : Int, e = .returned (.int .i64 r) ∧ Below w.heap.size w w' ∧ -1 ≤ r ∧ r ≤ left := by
  unfold maxLen at s0 s1 s2
  have HW : ∀ o, Hid (Below w.heap.size w (w.alloc o)) := fun o => one_al _ _
  go_enter Try.func15, Try.ntmps15
  go_wp2
  all_goals go_ret
  all_goals exact ⟨_, rfl, (HW _).out, by omega, by omega⟩
set_option maxHeartbeats 1000000 in
theorem toAct_any (v : Int) (k t n : ByteArray) (w : World) :
    Calls Try.prog 18 #[.agg #[.int .i64 v, .string k, .string t, .string n]] w
      fun e w' => e = .returned (.agg #[.int .i64 v, .string k, .string t, .string n]) ∧ Below w.heap.size w w' := by
  go_enter Try.func18, Try.ntmps18
  go_wp2
  refine bodyPost_ret (v := .agg #[.int .i64 v, .string k, .string t, .string n]) (by simp [results, Try.results18, go_sem]) rfl ⟨rfl, ?_⟩
  repeat (refine Below.setCell ?_ (by simp only []; omega) _)
  exact (((Below.refl _ _).alloc (Nat.le_refl _) _).alloc (by simp) _).alloc (by simp; omega) _
end Go.Proofs.Ytfajekibnjdlmaa
