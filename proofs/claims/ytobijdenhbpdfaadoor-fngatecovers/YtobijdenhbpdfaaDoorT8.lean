import Derived.Test.YtobijdenhbpdfaaDoorT7
import Derived.Deep.RegionHeld3
namespace Go.Proofs.YtobijdenhbpdfaaDoor
open Go.RowKit Go.Deep

theorem bt {W0 W W' : World} (h : Below W0.heap.size W0 W) (hb : Below W.heap.size W W') : Below W0.heap.size W0 W' := h.trans (hb.mono h.size)
abbrev Held2 (W0 : World) (b1 : Nat) (cs1 : Array Value) (b2 : Nat) (cs2 : Array Value) (W : World) : Prop :=
  (∀ i, W.cell? ⟨b1, i, none⟩ = cs1[i]?) ∧ (∀ i, W.cell? ⟨b2, i, none⟩ = cs2[i]?) ∧ Hid (Below W0.heap.size W0 W ∧ b1 < W0.heap.size ∧ b2 < W0.heap.size)
theorem Held2.drew {W0 : World} {b1 b2 : Nat} {cs1 cs2 : Array Value} (h1 : Box W0 b1 cs1) (h2 : Box W0 b2 cs2) : Held2 W0 b1 cs1 b2 cs2 W0.drew := ⟨h1.cell, h2.cell, (Below.refl _ _).drew, h1.lt, h2.lt⟩
theorem Held2.on {W0 W W' : World} {b1 b2 : Nat} {cs1 cs2 : Array Value} (h : Held2 W0 b1 cs1 b2 cs2 W) (hb : Below W.heap.size W W') : Held2 W0 b1 cs1 b2 cs2 W' := by
  obtain ⟨h1, h2, h3, h4, h5⟩ := h
  have := h3.size
  exact ⟨fun i => (hb.cell (p := ⟨b1, i, none⟩) (by simp only []; omega)).trans (h1 i), fun i => (hb.cell (p := ⟨b2, i, none⟩) (by simp only []; omega)).trans (h2 i), bt h3 hb, h4, h5⟩
theorem Held2.base {W0 W : World} {b1 b2 : Nat} {cs1 cs2 : Array Value} (h : Held2 W0 b1 cs1 b2 cs2 W) : Below W0.heap.size W0 W := h.2.2.out.1

set_option maxRecDepth 20000 in
set_option maxHeartbeats 2000000 in
theorem allowsAct_any (lo lr : Nat) (tv vv : Value) (Ts : List Tm) (r : Ru) (v : Int) (kind team name : ByteArray) (w : World) (hT : TmsAt lo w tv Ts) (hv : IntsIn lr w vv r.vb) :
    Calls Tryd.prog 27 #[tv, .agg #[vv, .string r.kd, .string r.tm, .string r.pf], .agg #[.int .i64 v, .string kind, .string team, .string name]] w
      fun e w' => e = .returned (.bool (inB 1 5 v && givesP Ts r kind team name v)) ∧ Below w.heap.size w w' := by
  have HT := hide hT
  have HV := hide hv
  obtain ⟨ta, tcap, rfl⟩ := hT.form
  obtain ⟨a, cap, rfl⟩ := hv.form
  clear hT hv
  go_enter Tryd.func27, Tryd.ntmps27
  go_wp2
  generalize hWa : (World.alloc (w.alloc _) _) = Wa
  have HBa : Hid (Below w.heap.size w Wa) := by rw [← hWa]; exact (one_al w _).alloc (by simp) _
  have FA : Hid (Box Wa w.heap.size #[.slice a r.vb.length cap, .string r.kd, .string r.tm, .string r.pf]) := by rw [← hWa]; exact (Box.new _ _ _ _ rfl).on (one_al _ _)
  have FB : Hid (Box Wa (w.heap.size + 1) #[.int .i64 v, .string kind, .string team, .string name]) := by rw [← hWa]; exact Box.new _ _ _ _ (by simp)
  clear hWa
  have HTa := hide (HT.out.below HBa.out)
  have HVa := hide (HV.out.below HBa.out)
  go_region_held3 (Held2 Wa w.heap.size #[.slice a r.vb.length cap, .string r.kd, .string r.tm, .string r.pf] (w.heap.size + 1) #[.int .i64 v, .string kind, .string team, .string name])
    (first
      | (with_reducible exact Held2.drew FA.out FB.out)
      | (with_reducible exact Held2.on (by assumption) (by assumption)))
    (first
      | (go_at_call 35
         refine (rightOf_any _ _ r _ _ _ _ _ rfl rfl _).mono ?_
         rintro e w1 ⟨rfl, hb1⟩
         have HC1 : Hid (Below Wa.heap.size Wa w1) := bt ((Below.refl _ _).drew) hb1)
      | (go_at_call 55
         refine (gives_any lo lr _ _ Ts r kind team name _ (HTa.out.below HC1.out) (HVa.out.below HC1.out)).mono ?_
         rintro e w2 ⟨rfl, hb2⟩
         have HC2 : Hid (Below Wa.heap.size Wa w2) := bt HC1.out hb2)
      | (go_at_call 50
         refine (hasMask_any _ v _).mono ?_
         rintro e w3 ⟨rfl, rfl⟩
         have HC3 := HC2
         have hb3 : Below w3.heap.size w3 w3 := Below.refl _ _))
  all_goals
    go_wp2
    go_ret
    exact ⟨rfl, bt HBa.out HC3.out⟩

theorem allows_in {Ts : List Tm} {r : Ru} {v : Int} {kind team name : ByteArray} (h : ruleB r = true) : (inB 1 5 v && givesP Ts r kind team name v) = givesP Ts r kind team name v := by
  cases hg : givesP Ts r kind team name v with
  | false => simp
  | true =>
    unfold givesP at hg
    rw [Bool.and_eq_true] at hg
    have := vbs_in (rule_vbs h) hg.2
    have e : inB 1 5 v = true := by unfold inB; simp; omega
    rw [e]; rfl

set_option maxRecDepth 20000 in
set_option maxHeartbeats 2000000 in
theorem implAllows_any (lo lr : Nat) (tv vv : Value) (Ts : List Tm) (r : Ru) (v : Int) (kind team name : ByteArray) (w : World) (hT : TmsAt lo w tv Ts) (hv : IntsIn lr w vv r.vb) (hz : RuSize r) :
    Calls Tryd.prog 8 #[tv, .agg #[vv, .string r.kd, .string r.tm, .string r.pf], .agg #[.int .i64 v, .string kind, .string team, .string name]] w
      fun e w' => e = .returned (.bool (allowsB Ts r v kind team name)) ∧ Below w.heap.size w w' := by
  have HT := hide hT
  have HV := hide hv
  have HZ := hide hz
  obtain ⟨ta, tcap, rfl⟩ := hT.form
  obtain ⟨a, cap, rfl⟩ := hv.form
  clear hT hv hz
  go_enter Tryd.func8, Tryd.ntmps8
  go_wp2_with fail
  generalize hWa : (World.alloc (w.alloc _) _) = Wa
  have HBa : Hid (Below w.heap.size w Wa) := by rw [← hWa]; exact (one_al w _).alloc (by simp) _
  have FA : Hid (Box Wa w.heap.size #[.slice a r.vb.length cap, .string r.kd, .string r.tm, .string r.pf]) := by rw [← hWa]; exact (Box.new _ _ _ _ rfl).on (one_al _ _)
  have FB : Hid (Box Wa (w.heap.size + 1) #[.int .i64 v, .string kind, .string team, .string name]) := by rw [← hWa]; exact Box.new _ _ _ _ (by simp)
  clear hWa
  refine (implTeams_any lo _ Ts _ (HT.out.below HBa.out)).mono ?_
  rintro e w1 ⟨rfl, hb1⟩
  have HB1 : Hid (Below w.heap.size w w1) := bt HBa.out hb1
  replace FA := hide (FA.out.on hb1)
  replace FB := hide (FB.out.on hb1)
  clear hb1 HBa
  cases q1 : teamsB Ts with
  | false =>
    have HR : Hid (allowsB Ts r v kind team name = false) := by unfold Hid allowsB; rw [q1]; rfl
    go_wp2
    go_ret
    exact ⟨ret_bool HR.out.symm, HB1.out⟩
  | true =>
    have g0 := FA.out.cell
    have gl := FA.out.lt
    go_wp2_with fail
    clear g0 gl
    refine (implRule_any lr r _ _ (HV.out.below HB1.out) HZ.out).mono ?_
    rintro e w2 ⟨rfl, hb2⟩
    have HB2 : Hid (Below w.heap.size w w2) := bt HB1.out hb2
    replace FA := hide (FA.out.on hb2)
    replace FB := hide (FB.out.on hb2)
    clear hb2 HB1
    cases q2 : ruleB r with
    | false =>
      have HR : Hid (allowsB Ts r v kind team name = false) := by unfold Hid allowsB; rw [q1, q2]; rfl
      go_wp2
      go_ret
      exact ⟨ret_bool HR.out.symm, HB2.out⟩
    | true =>
      have HR : Hid (allowsB Ts r v kind team name = (inB 1 5 v && givesP Ts r kind team name v)) := by unfold Hid allowsB; rw [q1, q2, allows_in q2]; rfl
      have g0 := FA.out.cell
      have gl := FA.out.lt
      have g1 := FB.out.cell
      have gm := FB.out.lt
      go_wp2_with fail
      clear g0 gl g1 gm
      refine (allowsAct_any lo lr _ _ Ts r v kind team name _ (HT.out.below HB2.out) (HV.out.below HB2.out)).mono ?_
      rintro e w3 ⟨rfl, hb3⟩
      have HB3 : Hid (Below w.heap.size w w3) := bt HB2.out hb3
      clear hb3
      go_wp2
      go_ret
      exact ⟨ret_bool HR.out.symm, HB3.out⟩
end Go.Proofs.YtobijdenhbpdfaaDoor

