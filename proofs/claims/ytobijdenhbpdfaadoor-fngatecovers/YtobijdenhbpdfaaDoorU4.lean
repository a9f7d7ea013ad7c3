import Derived.Test.YtobijdenhbpdfaaDoorU3
import Derived.Deep.DeepCutAuto
namespace Go.Proofs.YtobijdenhbpdfaaDoor
open Go.RowKit Go.Deep

abbrev Held1 (W0 : World) (b1 : Nat) (cs1 : Array Value) (W : World) : Prop :=
  (∀ i, W.cell? ⟨b1, i, none⟩ = cs1[i]?) ∧ Hid (Below W0.heap.size W0 W ∧ b1 < W0.heap.size)
theorem Held1.drew {W0 : World} {b1 : Nat} {cs1 : Array Value} (h1 : Box W0 b1 cs1) : Held1 W0 b1 cs1 W0.drew := ⟨h1.cell, (Below.refl _ _).drew, h1.lt⟩
theorem Held1.aldrew {W0 : World} {b1 : Nat} {cs1 : Array Value} (h1 : Box W0 b1 cs1) (o : Obj) : Held1 W0 b1 cs1 (W0.alloc o).drew := ⟨(h1.on (one_al _ _)).cell, (one_al W0 o).drew, h1.lt⟩
theorem Held1.on {W0 W W' : World} {b1 : Nat} {cs1 : Array Value} (h : Held1 W0 b1 cs1 W) (hb : Below W.heap.size W W') : Held1 W0 b1 cs1 W' := by
  obtain ⟨h1, h3, h4⟩ := h
  have := h3.size
  exact ⟨fun i => (hb.cell (p := ⟨b1, i, none⟩) (by simp only []; omega)).trans (h1 i), bt h3 hb, h4⟩
theorem Held1.al {W0 W : World} {b1 : Nat} {cs1 : Array Value} (h : Held1 W0 b1 cs1 W) (o : Obj) : Held1 W0 b1 cs1 (W.alloc o) := h.on (one_al _ _)
theorem Held1.set {W0 W : World} {b1 : Nat} {cs1 : Array Value} (h : Held1 W0 b1 cs1 W) {p : Addr} (hp : W0.heap.size ≤ p.block) (u : Value) : Held1 W0 b1 cs1 (W.setCell p u) := by
  obtain ⟨h1, h3, h4⟩ := h
  exact ⟨fun i => (cell_setCell_ne W p ⟨b1, i, none⟩ u (by show b1 ≠ p.block; omega)).trans (h1 i), h3.setCell hp u, h4⟩
theorem Held1.base {W0 W : World} {b1 : Nat} {cs1 : Array Value} (h : Held1 W0 b1 cs1 W) : Below W0.heap.size W0 W := h.2.out.1
theorem Box.put {w : World} {β : Nat} {cs : Array Value} (h : Box w β cs) (j : Nat) (hj : j < cs.size) (u : Value) : Box (w.setCell ⟨β, j, none⟩ u) β (cs.setIfInBounds j u) := by
  have hv : w.cell? ⟨β, j, none⟩ = some cs[j] := by rw [h.cell j, Array.getElem?_eq_getElem hj]
  refine ⟨by simpa [World.setCell] using h.lt, fun i => ?_, fun i => ?_⟩
  · by_cases e : i = j
    · subst e
      rw [show (w.setCell ⟨β, i, none⟩ u).cell? ⟨β, i, none⟩ = some u from by apply World.cell?_setCell_same; exact hv, Array.getElem?_setIfInBounds_self_of_lt hj]
    · rw [show (w.setCell ⟨β, j, none⟩ u).cell? ⟨β, i, none⟩ = w.cell? ⟨β, i, none⟩ from by apply World.cell?_setCell_other; simp, h.cell i, Array.getElem?_setIfInBounds_ne (by omega)]
  · rw [World.frozen?_setCell]; exact h.free i
theorem Box.other {w : World} {β : Nat} {cs : Array Value} (h : Box w β cs) {p : Addr} (hp : β ≠ p.block) (u : Value) : Box (w.setCell p u) β cs :=
  ⟨by simpa [World.setCell] using h.lt, fun i => (cell_setCell_ne w p ⟨β, i, none⟩ u hp).trans (h.cell i), fun i => (World.frozen?_of_block (w := w) (a := ⟨β, i, none⟩) (Below.heap_setCell w p u β hp)).trans (h.free i)⟩
/-- the kind and the team of an act that is not covered -/
def IsAct (Ts : List Tm) (Rs : List Ru) (r : Ru) (k t : ByteArray) : Prop :=
  (if r.kd.toList.isEmpty then IsNew (hasB (kindsL Rs)) 107 k else k = r.kd) ∧ (if r.tm.toList.isEmpty then IsNew (hasB (teamsL Ts Rs)) 116 t else t = r.tm)
theorem IsAct.one {Ts : List Tm} {Rs : List Ru} {r : Ru} {k t k' t' : ByteArray} (h : IsAct Ts Rs r k t) (h' : IsAct Ts Rs r k' t') : k = k' ∧ t = t' := by
  obtain ⟨h1, h2⟩ := h
  obtain ⟨h3, h4⟩ := h'
  constructor
  · cases e : r.kd.toList.isEmpty with
    | true => rw [e, if_pos rfl] at h1 h3; exact h1.one h3
    | false => rw [e, if_neg (by simp)] at h1 h3; rw [h1, h3]
  · cases e : r.tm.toList.isEmpty with
    | true => rw [e, if_pos rfl] at h2 h4; exact h2.one h4
    | false => rw [e, if_neg (by simp)] at h2 h4; rw [h2, h4]
/-- what GateUncovered answers -/
def UncR (Ts : List Tm) (Rs : List Ru) (r : Ru) (e : Ending) : Prop :=
  (¬ (allokB Ts Rs r = true ∧ (num (missP Ts Rs r) == 0) = false) ∧ e = .returned (.tuple #[.agg #[.int .i64 0, .string ⟨#[]⟩, .string ⟨#[]⟩, .string ⟨#[]⟩], .bool false])) ∨
  (allokB Ts Rs r = true ∧ (num (missP Ts Rs r) == 0) = false ∧ ∃ k t, e = .returned (.tuple #[.agg #[.int .i64 (leastP (missP Ts Rs r)), .string k, .string t, .string r.pf], .bool true]) ∧ IsAct Ts Rs r k t)

set_option maxRecDepth 20000 in
set_option maxHeartbeats 8000000 in
theorem implUncovered_any (lo lr ls : Nat) (tv sv vv : Value) (Ts : List Tm) (Rs : List Ru) (r : Ru) (w : World) (hT : TmsAt lo w tv Ts) (hR : RusAt lr w sv Rs) (hv : IntsIn ls w vv r.vb) (hz : RuSize r) (hm : Ts.length ≤ 1048576) (hn : Rs.length ≤ 1048576)
    (htab : Lib.TabBelow Tryd.prog w.heap.size w "internal/strconv.uint64pow10" .u64 Lib.pow10Tab) :
    Calls Tryd.prog 6 #[tv, sv, .agg #[vv, .string r.kd, .string r.tm, .string r.pf]] w fun e w' => UncR Ts Rs r e ∧ Below w.heap.size w w' := by
  have HT := hide hT
  have HR := hide hR
  have HV := hide hv
  have HZ := hide hz
  have HTB := hide htab
  obtain ⟨ta, tcap, rfl⟩ := hT.form
  obtain ⟨sa, scap, rfl⟩ := hR.form
  obtain ⟨a, cap, rfl⟩ := hv.form
  clear hT hR hv hz htab
  go_enter Tryd.func6, Tryd.ntmps6
  go_wp2_with fail
  generalize hWa : w.alloc _ = Wa
  have hza : Wa.heap.size = w.heap.size + 1 := by rw [← hWa]; simp
  have HBa : Hid (Below w.heap.size w Wa) := by rw [← hWa]; exact one_al _ _
  have FA : Hid (Box Wa w.heap.size #[.slice a r.vb.length cap, .string r.kd, .string r.tm, .string r.pf]) := by rw [← hWa]; exact Box.new _ _ _ _ rfl
  clear hWa
  generalize hWb : Wa.alloc _ = Wb
  have hbb : Below Wa.heap.size Wa Wb := by rw [← hWb]; exact one_al _ _
  have HBb : Hid (Below w.heap.size w Wb) := bt HBa.out hbb
  replace FA := hide (FA.out.on hbb)
  have FR : Hid (Box Wb (w.heap.size + 1) #[.int .i64 0, .string ⟨#[]⟩, .string ⟨#[]⟩, .string ⟨#[]⟩]) := by rw [← hWb]; exact Box.new _ _ _ _ hza
  clear hWb hbb HBa hza
  refine (rulesOk_any lo lr ls _ _ _ Ts Rs r _ (HT.out.below HBb.out) (HR.out.below HBb.out) (HV.out.below HBb.out) HZ.out).mono ?_
  rintro e w1 ⟨rfl, hb1⟩
  have HB1 : Hid (Below w.heap.size w w1) := bt HBb.out hb1
  replace FA := hide (FA.out.on hb1)
  replace FR := hide (FR.out.on hb1)
  clear hb1 HBb
  have HST : ∀ (W : World) (u0 u1 u2 u3 : Value), Hid (Below w.heap.size w W) → Hid (Below w.heap.size w ((((W.setCell ⟨w.heap.size + 1, 0, none⟩ u0).setCell ⟨w.heap.size + 1, 1, none⟩ u1).setCell ⟨w.heap.size + 1, 2, none⟩ u2).setCell ⟨w.heap.size + 1, 3, none⟩ u3)) := fun W u0 u1 u2 u3 h => by
    have q : ∀ (i : Nat), w.heap.size ≤ (⟨w.heap.size + 1, i, none⟩ : Addr).block := fun i => Nat.le_succ _
    exact (((h.out.setCell (q 0) _).setCell (q 1) _).setCell (q 2) _).setCell (q 3) _
  cases q1 : allokB Ts Rs r with
  | false =>
    have HU : Hid (¬ (allokB Ts Rs r = true ∧ (num (missP Ts Rs r) == 0) = false)) := fun h => by rw [q1] at h; cases h.1
    have rf := FR.out.free
    have rl := FR.out.lt
    have r0 : w1.cell? ⟨w.heap.size + 1, 0, none⟩ = some (.int .i64 0) := FR.out.cell 0
    have r1 : w1.cell? ⟨w.heap.size + 1, 1, none⟩ = some (.string ⟨#[]⟩) := FR.out.cell 1
    have r2 : w1.cell? ⟨w.heap.size + 1, 2, none⟩ = some (.string ⟨#[]⟩) := FR.out.cell 2
    have r3 : w1.cell? ⟨w.heap.size + 1, 3, none⟩ = some (.string ⟨#[]⟩) := FR.out.cell 3
    go_wp2
    refine bodyPost_ret (v := .tuple #[.agg #[.int .i64 0, .string ⟨#[]⟩, .string ⟨#[]⟩, .string ⟨#[]⟩], .bool false]) (by simp [results, Tryd.results6, go_sem, r0, r1, r2, r3]) rfl ⟨Or.inl ⟨HU.out, rfl⟩, ?_⟩
    exact (HST _ _ _ _ _ HB1).out
  | true =>
    have g0 := FA.out.cell
    have gl := FA.out.lt
    go_wp2_with fail
    clear g0 gl
    refine (missing_any lo lr ls _ _ _ Ts Rs r _ (HT.out.below HB1.out) (HR.out.below HB1.out) (HV.out.below HB1.out)).mono ?_
    rintro e w2 ⟨rfl, hb2⟩
    have HB2 : Hid (Below w.heap.size w w2) := bt HB1.out hb2
    replace FA := hide (FA.out.on hb2)
    replace FR := hide (FR.out.on hb2)
    clear hb2 HB1
    cases q2 : (num (missP Ts Rs r) == 0) with
    | true =>
      have HU : Hid (¬ (allokB Ts Rs r = true ∧ (num (missP Ts Rs r) == 0) = false)) := fun h => by rw [q2] at h; cases h.2
      have rf := FR.out.free
      have rl := FR.out.lt
      have r0 : w2.cell? ⟨w.heap.size + 1, 0, none⟩ = some (.int .i64 0) := FR.out.cell 0
      have r1 : w2.cell? ⟨w.heap.size + 1, 1, none⟩ = some (.string ⟨#[]⟩) := FR.out.cell 1
      have r2 : w2.cell? ⟨w.heap.size + 1, 2, none⟩ = some (.string ⟨#[]⟩) := FR.out.cell 2
      have r3 : w2.cell? ⟨w.heap.size + 1, 3, none⟩ = some (.string ⟨#[]⟩) := FR.out.cell 3
      have e0 : num (missP Ts Rs r) = 0 := by simpa using q2
      rw [e0]
      go_wp2
      refine bodyPost_ret (v := .tuple #[.agg #[.int .i64 0, .string ⟨#[]⟩, .string ⟨#[]⟩, .string ⟨#[]⟩], .bool false]) (by simp [results, Tryd.results6, go_sem, r0, r1, r2, r3]) rfl ⟨Or.inl ⟨HU.out, rfl⟩, ?_⟩
      exact (HST _ _ _ _ _ HB2).out
    | false =>
      have HF := fun w => hide (first_any (missP Ts Rs r) w q2)
      have ne0 : ¬ num (missP Ts Rs r) = 0 := by simpa using q2
      have HQ1 := hide q1
      have HQ2 := hide q2
      generalize hlv : leastP (missP Ts Rs r) = lv at HF ⊢
      have HLV := hide hlv
      clear q1 q2 hlv
      generalize hmk : num (missP Ts Rs r) = mk at HF ne0 ⊢
      clear hmk
      go_wp2
      go_cut [9] (fun p wc => ∃ β, p = .pointer (some ⟨β, 0, none⟩) ∧ w2.heap.size ≤ β ∧ Box wc β #[.int .i64 lv, .string r.kd, .string r.tm, .string r.pf] ∧ Below w2.heap.size w2 wc)
      case first =>
        have hlt2 : w.heap.size < w2.heap.size := FA.out.lt
        go_region_held3 (Held1 w2 w.heap.size #[.slice a r.vb.length cap, .string r.kd, .string r.tm, .string r.pf])
          (first
            | (with_reducible exact Held1.drew FA.out)
            | (with_reducible assumption)
            | (with_reducible exact Held1.aldrew FA.out _)
            | (with_reducible (refine Held1.al ?_ _; assumption))
            | (refine Held1.set ?_ (by simp only []; omega) _
               refine Held1.set ?_ (by simp only []; omega) _
               refine Held1.set ?_ (by simp only []; omega) _
               refine Held1.set ?_ (by simp only []; omega) _
               with_reducible assumption))
          (first
            | (go_at_call 19
               refine (HF _).out.mono ?_
               rintro e w3 ⟨rfl, rfl⟩))
        all_goals (go_wp2_with fail)
        all_goals go_meet
        all_goals exact ⟨_, rfl, Nat.le_refl _, (Box.new w2 _ _ _ rfl).drew, (one_al w2 _).drew⟩
      case rest =>
        have FRL : Hid (w.heap.size + 1 < w2.heap.size) := FR.out.lt
        obtain ⟨β, rfl, hβ, hbox, hbc⟩ := hcut
        have FX := hide hbox
        have HBc : Hid (Below w.heap.size w wc) := bt HB2.out hbc
        replace FR := hide (FR.out.on hbc)
        have hβ2 : w.heap.size + 1 < β := by have := hβ; have := FRL.out; omega
        clear hbox hbc
        cases hk : r.kd.toList.isEmpty with
        | false =>
          cases ht : r.tm.toList.isEmpty with
          | false =>
            have x0 : wc.cell? ⟨β, 0, none⟩ = some (.int .i64 lv) := FX.out.cell 0
            have x1 : wc.cell? ⟨β, 1, none⟩ = some (.string r.kd) := FX.out.cell 1
            have x2 : wc.cell? ⟨β, 2, none⟩ = some (.string r.tm) := FX.out.cell 2
            have x3 : wc.cell? ⟨β, 3, none⟩ = some (.string r.pf) := FX.out.cell 3
            have xl := FX.out.lt
            have xf := FX.out.free
            have rf := FR.out.free
            have rl := FR.out.lt
            have r0 : wc.cell? ⟨w.heap.size + 1, 0, none⟩ = some (.int .i64 0) := FR.out.cell 0
            have r1 : wc.cell? ⟨w.heap.size + 1, 1, none⟩ = some (.string ⟨#[]⟩) := FR.out.cell 1
            have r2 : wc.cell? ⟨w.heap.size + 1, 2, none⟩ = some (.string ⟨#[]⟩) := FR.out.cell 2
            have r3 : wc.cell? ⟨w.heap.size + 1, 3, none⟩ = some (.string ⟨#[]⟩) := FR.out.cell 3
            have HAC : Hid (IsAct Ts Rs r r.kd r.tm) := by unfold Hid IsAct; rw [hk, ht]; exact ⟨by rw [if_neg (by simp)], by rw [if_neg (by simp)]⟩
            go_wp2
            refine bodyPost_ret (v := .tuple #[.agg #[.int .i64 lv, .string r.kd, .string r.tm, .string r.pf], .bool true]) (by simp [results, Tryd.results6, go_sem, r0, r1, r2, r3]) rfl ⟨Or.inr ⟨HQ1.out, HQ2.out, r.kd, r.tm, by rw [HLV.out], HAC.out⟩, ?_⟩
            exact (HST _ _ _ _ _ HBc).out
          | true =>
            have x0 : wc.cell? ⟨β, 0, none⟩ = some (.int .i64 lv) := FX.out.cell 0
            have x1 : wc.cell? ⟨β, 1, none⟩ = some (.string r.kd) := FX.out.cell 1
            have x2 : wc.cell? ⟨β, 2, none⟩ = some (.string r.tm) := FX.out.cell 2
            have x3 : wc.cell? ⟨β, 3, none⟩ = some (.string r.pf) := FX.out.cell 3
            have xl := FX.out.lt
            have xf := FX.out.free
            go_wp2_with fail
            refine (teamsTaken_any lo lr _ _ Ts Rs _ (HT.out.below HBc.out) (HR.out.below HBc.out) hm hn).mono ?_
            rintro e wta ⟨vt, rfl, hbta, hot⟩
            obtain ⟨avt, capt, rfl⟩ := hot.form
            have HBta : Hid (Below w.heap.size w wta) := bt HBc.out hbta
            have HOt := hide hot.strs
            replace FX := hide (FX.out.on hbta)
            replace FR := hide (FR.out.on hbta)
            clear hbta hot x0 x1 x2 x3 xl xf
            go_wp2_with fail
            refine (untaken_any 116 _ _ _ HOt.out (by unfold teamsL; rw [List.length_append, List.length_map, List.length_map]; omega) (Lib.tabBelow_of_tabIs (HTB.out.on HBta.out).here)).mono ?_
            rintro e wtb ⟨tn, rfl, hbtb, hnewt⟩
            have HNWt := hide hnewt
            have HBtb : Hid (Below w.heap.size w wtb) := bt HBta.out hbtb
            replace FX := hide (FX.out.on hbtb)
            replace FR := hide (FR.out.on hbtb)
            clear hbtb hnewt HOt
            have FX2 := hide (FX.out.put 2 (by simp) (.string tn))
            have FR2 := hide (FR.out.other (p := ⟨β, 2, none⟩) (by show w.heap.size + 1 ≠ β; omega) (.string tn))
            have HBs : Hid (Below w.heap.size w (wtb.setCell ⟨β, 2, none⟩ (.string tn))) := HBtb.out.setCell (by show w.heap.size ≤ β; omega) _
            have x0 : wtb.cell? ⟨β, 0, none⟩ = some (.int .i64 lv) := FX.out.cell 0
            have x1 : wtb.cell? ⟨β, 1, none⟩ = some (.string r.kd) := FX.out.cell 1
            have x2 : wtb.cell? ⟨β, 2, none⟩ = some (.string r.tm) := FX.out.cell 2
            have x3 : wtb.cell? ⟨β, 3, none⟩ = some (.string r.pf) := FX.out.cell 3
            have xl := FX.out.lt
            have xf := FX.out.free
            have rf := FR.out.free
            have rl := FR.out.lt
            have r0 : wtb.cell? ⟨w.heap.size + 1, 0, none⟩ = some (.int .i64 0) := FR.out.cell 0
            have r1 : wtb.cell? ⟨w.heap.size + 1, 1, none⟩ = some (.string ⟨#[]⟩) := FR.out.cell 1
            have r2 : wtb.cell? ⟨w.heap.size + 1, 2, none⟩ = some (.string ⟨#[]⟩) := FR.out.cell 2
            have r3 : wtb.cell? ⟨w.heap.size + 1, 3, none⟩ = some (.string ⟨#[]⟩) := FR.out.cell 3
            have hne1 : ¬ (w.heap.size + 1 = β) := by omega
            have hne2 : ¬ (β = w.heap.size + 1) := by omega
            have HAC : Hid (IsAct Ts Rs r r.kd tn) := by unfold Hid IsAct; rw [hk, ht]; exact ⟨by rw [if_neg (by simp)], by rw [if_pos rfl]; exact HNWt.out⟩
            go_wp2
            refine bodyPost_ret (v := .tuple #[.agg #[.int .i64 lv, .string r.kd, .string tn, .string r.pf], .bool true]) (by simp [results, Tryd.results6, go_sem, r0, r1, r2, r3]) rfl ⟨Or.inr ⟨HQ1.out, HQ2.out, r.kd, tn, by rw [HLV.out], HAC.out⟩, ?_⟩
            exact (HST _ _ _ _ _ HBs).out
        | true =>
          cases ht : r.tm.toList.isEmpty with
          | false =>
            have x0 : wc.cell? ⟨β, 0, none⟩ = some (.int .i64 lv) := FX.out.cell 0
            have x1 : wc.cell? ⟨β, 1, none⟩ = some (.string r.kd) := FX.out.cell 1
            have x2 : wc.cell? ⟨β, 2, none⟩ = some (.string r.tm) := FX.out.cell 2
            have x3 : wc.cell? ⟨β, 3, none⟩ = some (.string r.pf) := FX.out.cell 3
            have xl := FX.out.lt
            have xf := FX.out.free
            go_wp2_with fail
            refine (kindsTaken_any lr _ Rs _ (HR.out.below HBc.out) hn).mono ?_
            rintro e wka ⟨vk, rfl, hbka, hok⟩
            obtain ⟨avk, capk, rfl⟩ := hok.form
            have HBka : Hid (Below w.heap.size w wka) := bt HBc.out hbka
            have HOk := hide hok.strs
            replace FX := hide (FX.out.on hbka)
            replace FR := hide (FR.out.on hbka)
            clear hbka hok x0 x1 x2 x3 xl xf
            go_wp2_with fail
            refine (untaken_any 107 _ _ _ HOk.out (by unfold kindsL; rw [List.length_map]; omega) (Lib.tabBelow_of_tabIs (HTB.out.on HBka.out).here)).mono ?_
            rintro e wkb ⟨kn, rfl, hbkb, hnewk⟩
            have HNWk := hide hnewk
            have HBkb : Hid (Below w.heap.size w wkb) := bt HBka.out hbkb
            replace FX := hide (FX.out.on hbkb)
            replace FR := hide (FR.out.on hbkb)
            clear hbkb hnewk HOk
            have FX2 := hide (FX.out.put 1 (by simp) (.string kn))
            have FR2 := hide (FR.out.other (p := ⟨β, 1, none⟩) (by show w.heap.size + 1 ≠ β; omega) (.string kn))
            have HBs : Hid (Below w.heap.size w (wkb.setCell ⟨β, 1, none⟩ (.string kn))) := HBkb.out.setCell (by show w.heap.size ≤ β; omega) _
            have x0 : wkb.cell? ⟨β, 0, none⟩ = some (.int .i64 lv) := FX.out.cell 0
            have x1 : wkb.cell? ⟨β, 1, none⟩ = some (.string r.kd) := FX.out.cell 1
            have x2 : wkb.cell? ⟨β, 2, none⟩ = some (.string r.tm) := FX.out.cell 2
            have x3 : wkb.cell? ⟨β, 3, none⟩ = some (.string r.pf) := FX.out.cell 3
            have xl := FX.out.lt
            have xf := FX.out.free
            have rf := FR.out.free
            have rl := FR.out.lt
            have r0 : wkb.cell? ⟨w.heap.size + 1, 0, none⟩ = some (.int .i64 0) := FR.out.cell 0
            have r1 : wkb.cell? ⟨w.heap.size + 1, 1, none⟩ = some (.string ⟨#[]⟩) := FR.out.cell 1
            have r2 : wkb.cell? ⟨w.heap.size + 1, 2, none⟩ = some (.string ⟨#[]⟩) := FR.out.cell 2
            have r3 : wkb.cell? ⟨w.heap.size + 1, 3, none⟩ = some (.string ⟨#[]⟩) := FR.out.cell 3
            have hne1 : ¬ (w.heap.size + 1 = β) := by omega
            have hne2 : ¬ (β = w.heap.size + 1) := by omega
            have HAC : Hid (IsAct Ts Rs r kn r.tm) := by unfold Hid IsAct; rw [hk, ht]; exact ⟨by rw [if_pos rfl]; exact HNWk.out, by rw [if_neg (by simp)]⟩
            go_wp2
            refine bodyPost_ret (v := .tuple #[.agg #[.int .i64 lv, .string kn, .string r.tm, .string r.pf], .bool true]) (by simp [results, Tryd.results6, go_sem, r0, r1, r2, r3]) rfl ⟨Or.inr ⟨HQ1.out, HQ2.out, kn, r.tm, by rw [HLV.out], HAC.out⟩, ?_⟩
            exact (HST _ _ _ _ _ HBs).out
          | true =>
            have x0 : wc.cell? ⟨β, 0, none⟩ = some (.int .i64 lv) := FX.out.cell 0
            have x1 : wc.cell? ⟨β, 1, none⟩ = some (.string r.kd) := FX.out.cell 1
            have x2 : wc.cell? ⟨β, 2, none⟩ = some (.string r.tm) := FX.out.cell 2
            have x3 : wc.cell? ⟨β, 3, none⟩ = some (.string r.pf) := FX.out.cell 3
            have xl := FX.out.lt
            have xf := FX.out.free
            go_wp2_with fail
            refine (kindsTaken_any lr _ Rs _ (HR.out.below HBc.out) hn).mono ?_
            rintro e wka ⟨vk, rfl, hbka, hok⟩
            obtain ⟨avk, capk, rfl⟩ := hok.form
            have HBka : Hid (Below w.heap.size w wka) := bt HBc.out hbka
            have HOk := hide hok.strs
            replace FX := hide (FX.out.on hbka)
            replace FR := hide (FR.out.on hbka)
            clear hbka hok x0 x1 x2 x3 xl xf
            go_wp2_with fail
            refine (untaken_any 107 _ _ _ HOk.out (by unfold kindsL; rw [List.length_map]; omega) (Lib.tabBelow_of_tabIs (HTB.out.on HBka.out).here)).mono ?_
            rintro e wkb ⟨kn, rfl, hbkb, hnewk⟩
            have HNWk := hide hnewk
            have HBkb : Hid (Below w.heap.size w wkb) := bt HBka.out hbkb
            replace FX := hide (FX.out.on hbkb)
            replace FR := hide (FR.out.on hbkb)
            clear hbkb hnewk HOk
            have FX2 := hide (FX.out.put 1 (by simp) (.string kn))
            have FR2 := hide (FR.out.other (p := ⟨β, 1, none⟩) (by show w.heap.size + 1 ≠ β; omega) (.string kn))
            have HBs : Hid (Below w.heap.size w (wkb.setCell ⟨β, 1, none⟩ (.string kn))) := HBkb.out.setCell (by show w.heap.size ≤ β; omega) _
            have x0 : wkb.cell? ⟨β, 0, none⟩ = some (.int .i64 lv) := FX.out.cell 0
            have x1 : wkb.cell? ⟨β, 1, none⟩ = some (.string r.kd) := FX.out.cell 1
            have x2 : wkb.cell? ⟨β, 2, none⟩ = some (.string r.tm) := FX.out.cell 2
            have x3 : wkb.cell? ⟨β, 3, none⟩ = some (.string r.pf) := FX.out.cell 3
            have xl := FX.out.lt
            have xf := FX.out.free
            go_wp2_with fail
            generalize hSw : wkb.setCell ⟨β, 1, none⟩ (.string kn) = wk
            rw [hSw] at FX2 FR2 HBs
            have HBk := HBs
            clear hSw x0 x1 x2 x3 xl xf FX FR HBs
            have FX : Hid (Box wk β #[.int .i64 lv, .string kn, .string r.tm, .string r.pf]) := FX2.out
            have FR := FR2
            clear FX2 FR2
            have x0 : wk.cell? ⟨β, 0, none⟩ = some (.int .i64 lv) := FX.out.cell 0
            have x1 : wk.cell? ⟨β, 1, none⟩ = some (.string kn) := FX.out.cell 1
            have x2 : wk.cell? ⟨β, 2, none⟩ = some (.string r.tm) := FX.out.cell 2
            have x3 : wk.cell? ⟨β, 3, none⟩ = some (.string r.pf) := FX.out.cell 3
            have xl := FX.out.lt
            have xf := FX.out.free
            go_wp2_with fail
            refine (teamsTaken_any lo lr _ _ Ts Rs _ (HT.out.below HBk.out) (HR.out.below HBk.out) hm hn).mono ?_
            rintro e wta ⟨vt, rfl, hbta, hot⟩
            obtain ⟨avt, capt, rfl⟩ := hot.form
            have HBta : Hid (Below w.heap.size w wta) := bt HBk.out hbta
            have HOt := hide hot.strs
            replace FX := hide (FX.out.on hbta)
            replace FR := hide (FR.out.on hbta)
            clear hbta hot x0 x1 x2 x3 xl xf
            go_wp2_with fail
            refine (untaken_any 116 _ _ _ HOt.out (by unfold teamsL; rw [List.length_append, List.length_map, List.length_map]; omega) (Lib.tabBelow_of_tabIs (HTB.out.on HBta.out).here)).mono ?_
            rintro e wtb ⟨tn, rfl, hbtb, hnewt⟩
            have HNWt := hide hnewt
            have HBtb : Hid (Below w.heap.size w wtb) := bt HBta.out hbtb
            replace FX := hide (FX.out.on hbtb)
            replace FR := hide (FR.out.on hbtb)
            clear hbtb hnewt HOt
            have FX2 := hide (FX.out.put 2 (by simp) (.string tn))
            have FR2 := hide (FR.out.other (p := ⟨β, 2, none⟩) (by show w.heap.size + 1 ≠ β; omega) (.string tn))
            have HBs : Hid (Below w.heap.size w (wtb.setCell ⟨β, 2, none⟩ (.string tn))) := HBtb.out.setCell (by show w.heap.size ≤ β; omega) _
            have x0 : wtb.cell? ⟨β, 0, none⟩ = some (.int .i64 lv) := FX.out.cell 0
            have x1 : wtb.cell? ⟨β, 1, none⟩ = some (.string kn) := FX.out.cell 1
            have x2 : wtb.cell? ⟨β, 2, none⟩ = some (.string r.tm) := FX.out.cell 2
            have x3 : wtb.cell? ⟨β, 3, none⟩ = some (.string r.pf) := FX.out.cell 3
            have xl := FX.out.lt
            have xf := FX.out.free
            have rf := FR.out.free
            have rl := FR.out.lt
            have r0 : wtb.cell? ⟨w.heap.size + 1, 0, none⟩ = some (.int .i64 0) := FR.out.cell 0
            have r1 : wtb.cell? ⟨w.heap.size + 1, 1, none⟩ = some (.string ⟨#[]⟩) := FR.out.cell 1
            have r2 : wtb.cell? ⟨w.heap.size + 1, 2, none⟩ = some (.string ⟨#[]⟩) := FR.out.cell 2
            have r3 : wtb.cell? ⟨w.heap.size + 1, 3, none⟩ = some (.string ⟨#[]⟩) := FR.out.cell 3
            have hne1 : ¬ (w.heap.size + 1 = β) := by omega
            have hne2 : ¬ (β = w.heap.size + 1) := by omega
            have HAC : Hid (IsAct Ts Rs r kn tn) := by unfold Hid IsAct; rw [hk, ht]; exact ⟨by rw [if_pos rfl]; exact HNWk.out, by rw [if_pos rfl]; exact HNWt.out⟩
            go_wp2
            refine bodyPost_ret (v := .tuple #[.agg #[.int .i64 lv, .string kn, .string tn, .string r.pf], .bool true]) (by simp [results, Tryd.results6, go_sem, r0, r1, r2, r3]) rfl ⟨Or.inr ⟨HQ1.out, HQ2.out, kn, tn, by rw [HLV.out], HAC.out⟩, ?_⟩
            exact (HST _ _ _ _ _ HBs).out
end Go.Proofs.YtobijdenhbpdfaaDoor

