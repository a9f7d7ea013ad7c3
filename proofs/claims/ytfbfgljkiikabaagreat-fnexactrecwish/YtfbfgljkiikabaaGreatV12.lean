import Derived.Test.YtfbfgljkiikabaaGreatV05
import Derived.Deep.MidRow
namespace Go.Proofs.YtfbfgljkiikabaaGreat
open Go.RowKit Go.Deep

structure Rd where
  pr : Int
  kn : Int
  sl : List Rs
def RdSmall (U : Rd) : Prop := RssSmall U.sl
structure RdAt (lo : Nat) (w : World) (v0 : Value) (U : Rd) : Prop where
  l0 : RssAt lo w v0 U.sl
theorem RdAt.below {lo : Nat} {w w' : World} {v0 : Value} {U : Rd} (h : RdAt lo w v0 U) (hb : Below w.heap.size w w') : RdAt lo w' v0 U := ⟨h.l0.below hb⟩
theorem RdAt.mono {lo lo' : Nat} {w : World} {v0 : Value} {U : Rd} (h : RdAt lo w v0 U) (hl : lo' ≤ lo) : RdAt lo' w v0 U := ⟨h.l0.mono hl⟩
theorem RdAt.set {lo : Nat} {w : World} {v0 : Value} {U : Rd} (h : RdAt lo w v0 U) {p : Addr} (hp : p.block < lo) (u : Value) : RdAt lo (w.setCell p u) v0 U := ⟨h.l0.set hp u⟩
/-- its cells -/
def rdL (U : Rd) (a0 : Option Addr) (k0 : Nat) : List Value := [.int .i64 U.pr, .int .i64 U.kn, .slice a0 U.sl.length k0]
/-- its cells, and what they lead to -/
def RdC (lo : Nat) (w : World) (cs : List Value) (U : Rd) : Prop := ∃ a0 k0, cs = rdL U a0 k0 ∧ RdAt lo w (.slice a0 U.sl.length k0) U
theorem RdC.below {lo : Nat} {w w' : World} {cs : List Value} {U : Rd} (h : RdC lo w cs U) (hb : Below w.heap.size w w') : RdC lo w' cs U := by
  obtain ⟨a0, k0, h1, h2⟩ := h
  exact ⟨a0, k0, h1, h2.below hb⟩
theorem RdC.mono {lo lo' : Nat} {w : World} {cs : List Value} {U : Rd} (h : RdC lo w cs U) (hl : lo' ≤ lo) : RdC lo' w cs U := by
  obtain ⟨a0, k0, h1, h2⟩ := h
  exact ⟨a0, k0, h1, h2.mono hl⟩
theorem RdC.set {lo : Nat} {w : World} {cs : List Value} {U : Rd} (h : RdC lo w cs U) {p : Addr} (hp : p.block < lo) (u : Value) : RdC lo (w.setCell p u) cs U := by
  obtain ⟨a0, k0, h1, h2⟩ := h
  exact ⟨a0, k0, h1, h2.set hp u⟩
theorem RdC.len {lo : Nat} {w : World} {cs : List Value} {U : Rd} (h : RdC lo w cs U) : cs.length = 3 := by
  obtain ⟨a0, k0, h1, h2⟩ := h
  rw [h1]; rfl
theorem RdC.one {lo : Nat} {w : World} {cs : List Value} {U : Rd} (h : RdC lo w cs U) : Array.all cs.toArray (·.oneCell') = true := by
  obtain ⟨a0, k0, h1, h2⟩ := h
  rw [h1]
  unfold rdL
  simp [Value.oneCell']

set_option maxHeartbeats 8000000 in
theorem szRd_c (lo : Nat) (cs : List Value) (U : Rd) (left : Int) (w : World) (h0 : 0 ≤ left) (h1 : left ≤ 1048576) (h : RdC lo w cs U) :
    Calls Tryz.prog 24 #[.agg cs.toArray, .int .i64 left] w
      fun e w' => ∃ r : Int, e = .returned (.int .i64 r) ∧ Below w.heap.size w w' ∧ -1 ≤ r ∧ r ≤ left ∧ (0 ≤ r → RdSmall U) := by
  obtain ⟨a0, k0, rfl, h⟩ := h
  show Calls Tryz.prog 24 #[.agg #[.int .i64 U.pr, .int .i64 U.kn, .slice a0 U.sl.length k0], .int .i64 left] w _
  have HL := hide h
  clear h
  go_enter Tryz.func24, Tryz.ntmps24
  go_wp2_with fail
  generalize hWa : w.alloc _ = Wa
  have HB : Hid (Below w.heap.size w Wa) := by unfold Hid; rw [← hWa]; exact one_al _ _
  have FX : Hid (Box Wa w.heap.size #[.int .i64 U.pr, .int .i64 U.kn, .slice a0 U.sl.length k0]) := by unfold Hid; rw [← hWa]; exact Box.new _ _ _ _ rfl
  clear hWa
  refine (szRss_any lo _ U.sl _ _ (by omega) (by omega) ((HL.out.below HB.out).l0)).mono ?_
  rintro e w0 ⟨q0, rfl, hb, p0a, p0b, p0c⟩
  have Q0 := hide p0c
  replace HB := hide (bt HB.out hb)
  replace FX := hide (FX.out.on hb)
  clear hb p0c
  by_cases m0 : q0 < 0
  · go_wp2
    go_ret
    exact ⟨-1, rfl, HB.out, by omega, by omega, fun h => by omega⟩
  go_wp2
  go_ret
  exact ⟨_, rfl, HB.out, by omega, by omega, fun h => Q0.out (by omega)⟩

set_option maxHeartbeats 8000000 in
theorem eqRd_c (lo lo' : Nat) (cs cs' : List Value) (U : Rd) (w : World) (h : RdC lo w cs U) (h' : RdC lo' w cs' U) :
    Calls Tryz.prog 45 #[.agg cs.toArray, .agg cs'.toArray] w fun e w' => e = .returned (.bool true) ∧ Below w.heap.size w w' := by
  obtain ⟨a0, k0, rfl, h⟩ := h
  obtain ⟨d0, e0, rfl, h'⟩ := h'
  show Calls Tryz.prog 45 #[.agg #[.int .i64 U.pr, .int .i64 U.kn, .slice a0 U.sl.length k0], .agg #[.int .i64 U.pr, .int .i64 U.kn, .slice d0 U.sl.length e0]] w _
  have HL := hide h
  have HR := hide h'
  clear h h'
  go_enter Tryz.func45, Tryz.ntmps45
  go_wp2_with fail
  generalize hWa : (World.alloc (w.alloc _) _) = Wa
  have HB : Hid (Below w.heap.size w Wa) := by unfold Hid; rw [← hWa]; exact (one_al w _).alloc (by simp) _
  have FX : Hid (Box Wa w.heap.size #[.int .i64 U.pr, .int .i64 U.kn, .slice a0 U.sl.length k0]) := by unfold Hid; rw [← hWa]; exact (Box.new _ _ _ _ rfl).on (one_al _ _)
  have FY : Hid (Box Wa (w.heap.size + 1) #[.int .i64 U.pr, .int .i64 U.kn, .slice d0 U.sl.length e0]) := by unfold Hid; rw [← hWa]; exact Box.new _ _ _ _ (by simp)
  clear hWa
  refine (eqRss_same lo lo' _ _ U.sl _ ((HL.out.below HB.out).l0) ((HR.out.below HB.out).l0)).mono ?_
  rintro e w0 ⟨rfl, hb⟩
  replace HB := hide (bt HB.out hb)
  replace FX := hide (FX.out.on hb)
  replace FY := hide (FY.out.on hb)
  clear hb
  have g0 := FX.out.cell
  have g1 := FY.out.cell
  go_wp2
  go_ret
  exact ⟨rfl, HB.out⟩

set_option maxRecDepth 20000 in
set_option maxHeartbeats 16000000 in
theorem toRd_c (lo : Nat) (cs : List Value) (U : Rd) (w : World) (h : RdC lo w cs U) (hn : RdSmall U) :
    Calls Tryz.prog 35 #[.agg cs.toArray] w
      fun e w' => ∃ cs', e = .returned (.agg cs'.toArray) ∧ Below w.heap.size w w' ∧ RdC w.heap.size w' cs' U := by
  obtain ⟨a0, k0, rfl, h⟩ := h
  show Calls Tryz.prog 35 #[.agg #[.int .i64 U.pr, .int .i64 U.kn, .slice a0 U.sl.length k0]] w _
  have HL := hide h
  have hn0 := hn
  clear h
  go_enter Tryz.func35, Tryz.ntmps35
  go_wp2_with fail
  obtain ⟨wz, hwz, FX, FR, FO, HB⟩ : ∃ wz, wz = ((w.alloc (.cells #[.int .i64 U.pr, .int .i64 U.kn, .slice a0 U.sl.length k0] 24)).alloc (.cells #[.int .i64 0, .int .i64 0, .slice none 0 0] 37)).alloc (.cells #[.int .i64 U.pr, .int .i64 U.kn, .slice none 0 0] 37) ∧
      Hid (Box wz w.heap.size #[.int .i64 U.pr, .int .i64 U.kn, .slice a0 U.sl.length k0]) ∧ Hid (Box wz (w.heap.size + 1) #[.int .i64 0, .int .i64 0, .slice none 0 0]) ∧ Hid (Box wz (w.heap.size + 1 + 1) #[.int .i64 U.pr, .int .i64 U.kn, .slice none 0 0]) ∧ Hid (Below w.heap.size w wz) :=
    ⟨_, rfl, ((Box.new w _ _ _ rfl).on (one_al _ _)).on (one_al _ _), (Box.new _ _ _ _ (by simp)).on (one_al _ _), Box.new _ _ _ _ (by simp), ((one_al _ _).trans ((one_al _ _).mono (by simp))).trans ((one_al _ _).mono (by simp; omega))⟩
  rw [← hwz]
  clear hwz
  generalize wz = v0 at *
  have hz0 : w.heap.size + 3 ≤ v0.heap.size := by have := FO.out.lt; omega
  refine (toRss_any lo _ U.sl _ ((HL.out.below HB.out).l0) hn0).mono ?_
  rintro e x0 ⟨u, rfl, hb, hs⟩
  obtain ⟨b0, m0, rfl⟩ := hs.form
  have N0 := hide (hs.mono hz0)
  replace FX := hide (FX.out.on hb)
  replace FR := hide (FR.out.on hb)
  replace FO := hide (FO.out.on hb)
  replace HB := hide (bt HB.out hb)
  clear hb hs hz0
  have g0 := FO.out.cell
  have g1 := FO.out.free
  have g2 := FR.out.cell
  have g3 := FR.out.free
  have g4 := FX.out.cell
  go_wp2
  refine bodyPost_ret (v := .agg #[.int .i64 U.pr, .int .i64 U.kn, .slice b0 U.sl.length m0]) (by simp [results, Tryz.results35, go_sem, g2]) rfl ⟨rdL U b0 m0, rfl, ?_, b0, m0, rfl, ⟨?_⟩⟩
  · repeat (refine Below.setCell ?_ (by simp only []; omega) _)
    exact HB.out
  · refine RssAt.mono (lo := w.heap.size + 3) ?_ (by omega)
    repeat (refine RssAt.set ?_ (by simp only []; omega) _)
    exact N0.out
end Go.Proofs.YtfbfgljkiikabaaGreat
namespace Go.Proofs.YtfbfgljkiikabaaGreat
open Go.RowKit Go.Deep

/-! lists, one by one -/
theorem all_no {X : Type} {L : List X} {f : X → Bool} {k : Nat} (hk : k < L.length) (h : f L[k] = false) : L.all f = false := by
  rw [List.all_eq_false]
  exact ⟨L[k], List.getElem_mem hk, by simp [h]⟩
theorem all_yes {X : Type} {L : List X} {f : X → Bool} (h : ∀ i (h : i < L.length), f L[i] = true) : L.all f = true := by
  rw [List.all_eq_true]
  intro x hx
  obtain ⟨i, hi, rfl⟩ := List.getElem_of_mem hx
  exact h i hi
theorem all_at {X : Type} {L : List X} {f : X → Bool} (h : L.all f = true) {k : Nat} (hk : k < L.length) : f L[k] = true := List.all_eq_true.1 h _ (List.getElem_mem hk)
theorem step_all {X : Type} {L : List X} {f : X → Bool} {k : Nat} (hall : ∀ j (h : j < L.length), j < k → f L[j] = true) (hk : k < L.length) (h : f L[k] = true) : ∀ j (h : j < L.length), j < k + 1 → f L[j] = true := fun j hj hjk => by
  by_cases e : j = k
  · subst e; exact h
  · exact hall j hj (by omega)
theorem in21_any (n lo hi : Int) (w : World) :
    Calls Tryz.prog 76 #[.int .i64 n, .int .i64 lo, .int .i64 hi] w fun e w' => e = .returned (.bool (inB lo hi n)) ∧ w' = w := by
  rw [inB_eq]
  by_cases h1 : lo ≤ n
  · by_cases h2 : n ≤ hi
    all_goals
      go_enter Tryz.func76, Tryz.ntmps76
      go_wp2
      go_ret
      exact ⟨ret_bool (by simp [h1, h2]), rfl⟩
  · go_enter Tryz.func76, Tryz.ntmps76
    go_wp2
    go_ret
    refine ⟨ret_bool ?_, rfl⟩
    rw [Bool.eq_iff_iff]; simp; omega
/-- a slot is ok -/
def slotB (x : Rs) : Bool := inB 0 1000000 x.ba && (decide (x.tx.size ≤ 160) && !(x.ba == 0 && !x.tx.toList.isEmpty))
def slotsB (L : List Rs) : Bool := decide (L.length ≤ 120) && L.all slotB

set_option maxRecDepth 20000 in
set_option maxHeartbeats 4000000 in
theorem slotsOk_any (lo : Nat) (v : Value) (L : List Rs) (w : World) (hv : RssAt lo w v L) :
    Calls Tryz.prog 80 #[v] w fun e w' => e = .returned (.bool (slotsB L)) ∧ w' = w := by
  have HV := hide hv
  have hm := hv.max
  unfold maxLen at hm
  obtain ⟨a, cap, rfl⟩ := hv.form
  clear hv
  have HI : Hid (slotsB L = (decide (L.length ≤ 120) && L.all slotB)) := rfl
  by_cases l0 : L.length ≤ 120
  case neg =>
    have HE : Hid (slotsB L = false) := by unfold Hid; rw [HI.out, decide_eq_false l0]; rfl
    have d0 : decide ((120 : Int) < (L.length : Int)) = true := by simp; omega
    go_enter Tryz.func80, Tryz.ntmps80
    go_wp2
    go_ret
    exact ⟨ret_bool HE.out.symm, rfl⟩
  have d0 : decide ((120 : Int) < (L.length : Int)) = false := by simp; omega
  have HE1 : Hid (slotsB L = L.all slotB) := by unfold Hid; rw [HI.out, decide_eq_true l0]; rfl
  go_enter Tryz.func80, Tryz.ntmps80
  go_wp2
  clear d0
  go_loop [3] (fun i => ∃ k : Nat, i = .int .i64 k ∧ k ≤ L.length ∧ ∀ j (hj : j < L.length), j < k → slotB L[j] = true) (fun i => L.length - (intOf i).toNat)
  case atStart => exact ⟨0, rfl, by omega, fun j _ h => by omega⟩
  case round =>
    obtain ⟨k, rfl, hk, hall⟩ := hrel
    have HAL := hide hall
    clear hall
    by_cases hlt : k < L.length
    · obtain ⟨b, off, rfl, hbw, -, hc⟩ := HV.out.full' (by omega)
      obtain ⟨hsz, hcc⟩ := hc k hlt
      obtain ⟨x, hx⟩ : ∃ x, x = L[k] := ⟨_, rfl⟩
      rw [← hx] at hsz hcc
      have HX := hide hx
      have e0 := hcc.c0
      have e1 := hcc.c1
      have i0 : (0 : Int) ≤ (k : Int) := by omega
      have i1 : (k : Int) < (L.length : Int) := by omega
      have hs := hsz.s0
      unfold maxLen at hs
      clear hc hcc hsz hx
      cases h1 : inB 0 1000000 x.ba with
      | false =>
        have HN : Hid (slotB x = false) := by unfold Hid slotB; rw [h1]; rfl
        go_wp2_with (go_at_call 76; refine (in21_any _ _ _ _).mono ?_; rintro e w' ⟨rfl, rfl⟩)
        go_ret
        exact ⟨ret_bool (by rw [HE1.out]; exact (all_no hlt (by rw [← HX.out]; exact HN.out)).symm), rfl⟩
      | true =>
        by_cases h2 : x.tx.size ≤ 160
        case neg =>
          have HN : Hid (slotB x = false) := by unfold Hid slotB; rw [h1, decide_eq_false h2]; rfl
          have d2 : decide ((160 : Int) < (x.tx.size : Int)) = true := by simp; omega
          go_wp2_with (go_at_call 76; refine (in21_any _ _ _ _).mono ?_; rintro e w' ⟨rfl, rfl⟩)
          go_ret
          exact ⟨ret_bool (by rw [HE1.out]; exact (all_no hlt (by rw [← HX.out]; exact HN.out)).symm), rfl⟩
        have d2 : decide ((160 : Int) < (x.tx.size : Int)) = false := by simp; omega
        have HS : Hid (slotB x = !(x.ba == 0 && !x.tx.toList.isEmpty)) := by unfold Hid slotB; rw [h1, decide_eq_true h2]; rfl
        cases h3 : (x.ba == 0) with
        | false =>
          have HY : Hid (slotB x = true) := by unfold Hid; rw [HS.out, h3]; rfl
          go_wp2_with (go_at_call 76; refine (in21_any _ _ _ _).mono ?_; rintro e w' ⟨rfl, rfl⟩)
          go_round
          case rel => exact ⟨k + 1, by go_num, by omega, step_all HAL.out hlt (by rw [← HX.out]; exact HY.out)⟩
          case measure => simp [intOf]; omega
        | true =>
          cases h4 : x.tx.toList.isEmpty with
          | true =>
            have HY : Hid (slotB x = true) := by unfold Hid; rw [HS.out, h3, h4]; rfl
            go_wp2_with (go_at_call 76; refine (in21_any _ _ _ _).mono ?_; rintro e w' ⟨rfl, rfl⟩)
            go_round
            case rel => exact ⟨k + 1, by go_num, by omega, step_all HAL.out hlt (by rw [← HX.out]; exact HY.out)⟩
            case measure => simp [intOf]; omega
          | false =>
            have HN : Hid (slotB x = false) := by unfold Hid; rw [HS.out, h3, h4]; rfl
            go_wp2_with (go_at_call 76; refine (in21_any _ _ _ _).mono ?_; rintro e w' ⟨rfl, rfl⟩)
            go_ret
            exact ⟨ret_bool (by rw [HE1.out]; exact (all_no hlt (by rw [← HX.out]; exact HN.out)).symm), rfl⟩
    · have HT : Hid (L.all slotB = true) := all_yes (fun i hi => HAL.out i hi (by omega))
      go_wp2
      go_ret
      exact ⟨ret_bool (by rw [HE1.out, HT.out]), rfl⟩
end Go.Proofs.YtfbfgljkiikabaaGreat
