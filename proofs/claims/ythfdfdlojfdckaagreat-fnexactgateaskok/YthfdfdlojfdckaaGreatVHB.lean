import Derived.Test.YthfdfdlojfdckaaGreatVHA
import Derived.Test.YthfdfdlojfdckaaGreatVGG
import Derived.Deep.RegionHeld3
import Derived.Test.YthfdfdlojfdckaaGreatVBLP
import Derived.Test.YthfdfdlojfdckaaGreatVBBL
import Derived.Test.YthfdfdlojfdckaaGreatVA1
import Derived.Test.YthfdfdlojfdckaaGreatVDA
import Derived.Test.YthfdfdlojfdckaaGreatVM5R
import Derived.Test.YthfdfdlojfdckaaGreatVTA
import Derived.Test.YthfdfdlojfdckaaGreatVP1
namespace Go.Proofs.YthfdfdlojfdckaaGreat
open Go.RowKit Go.Deep

/-- is it the ledger of a team and a resource? -/
def ledIs (t r : ByteArray) (x : Le) : Bool := x.tm.toList == t.toList && x.re.toList == r.toList
def ledAt (Ls : List Le) (t r : ByteArray) : Nat := Ls.findIdx (ledIs t r)
def ledP (Ls : List Le) (t r : ByteArray) : Int := if ledAt Ls t r < Ls.length then (ledAt Ls t r : Int) else -1
theorem ledP_yes {Ls : List Le} {t r : ByteArray} {k : Nat} (hk : k < Ls.length) (h : ledIs t r Ls[k] = true) (hall : ∀ i (h : i < Ls.length), i < k → ledIs t r Ls[i] = false) : ledP Ls t r = k := by
  have e : ledAt Ls t r = k := by
    unfold ledAt
    rw [List.findIdx_eq hk]
    exact ⟨h, fun j hj => hall j (by omega) hj⟩
  unfold ledP
  rw [e, if_pos hk]
theorem ledP_no {Ls : List Le} {t r : ByteArray} (hall : ∀ i (h : i < Ls.length), ledIs t r Ls[i] = false) : ledP Ls t r = -1 := by
  have e : ledAt Ls t r = Ls.length := by
    unfold ledAt
    rw [List.findIdx_eq_length]
    intro x hx
    obtain ⟨i, hi, rfl⟩ := List.getElem_of_mem hx
    exact hall i hi
  unfold ledP
  rw [e, if_neg (Nat.lt_irrefl _)]
theorem ledP_neg (Ls : List Le) (t r : ByteArray) : decide (ledP Ls t r < 0) = !Ls.any (ledIs t r) := by
  unfold ledP ledAt
  cases h : Ls.any (ledIs t r) with
  | true =>
    obtain ⟨x, hx, hp⟩ := List.any_eq_true.1 h
    rw [if_pos (List.findIdx_lt_length_of_exists ⟨x, hx, hp⟩)]
    simp
  | false =>
    have e : Ls.findIdx (ledIs t r) = Ls.length := List.findIdx_eq_length.2 (fun x hx => by
      have := List.any_eq_false.1 h x hx
      simpa using this)
    rw [e, if_neg (Nat.lt_irrefl _)]
    rfl
/-- what the purses of a ledger have -/
def outOne (t r : ByteArray) (p : Pu) : Int := if (p.tm.toList == t.toList && p.re.toList == r.toList) = true then p.am else 0
def outZ (Ps : List Pu) (t r : ByteArray) : Int := (Ps.map (outOne t r)).sum
theorem outZ_snoc (A : List Pu) (p : Pu) (t r : ByteArray) : outZ (A ++ [p]) t r = outZ A t r + outOne t r p := by simp [outZ]
def timesB (B : Bk) : Bool := inB 0 1000000 B.now && inB 0 1000000 B.tick && inB 0 B.now B.given

section
variable (lo : Nat) (ov gv lv pv : Value) (B : Bk) (t r : ByteArray) (w : World)

set_option maxHeartbeats 1000000 in
theorem l5Ledger_any (h : BookAt lo w ov gv lv pv B) :
    Calls Tryz.prog 110 #[.agg #[.int .i64 B.now, .int .i64 B.tick, .int .i64 B.given, ov, gv, lv, pv], .string t, .string r] w fun e w' => e = .returned (.int .i64 (ledP B.ls t r)) ∧ Below w.heap.size w w' := by
  have HL := hide h.les
  have hm := h.les.max
  unfold maxLen at hm
  obtain ⟨a0, k0, rfl⟩ := h.obs.form
  obtain ⟨a1, k1, rfl⟩ := h.grs.form
  obtain ⟨a2, k2, rfl⟩ := h.les.form
  obtain ⟨a3, k3, rfl⟩ := h.pus.form
  clear h
  go_enter Tryz.func110, Tryz.ntmps110
  go_wp2_with fail
  generalize hWa : w.alloc _ = Wa
  have HB : Hid (Below w.heap.size w Wa) := by rw [← hWa]; exact one_al w _
  have HX : Hid (Box Wa w.heap.size #[.int .i64 B.now, .int .i64 B.tick, .int .i64 B.given, .slice a0 B.os.length k0, .slice a1 B.gs.length k1, .slice a2 B.ls.length k2, .slice a3 B.ps.length k3]) := by rw [← hWa]; exact Box.new _ _ _ _ rfl
  clear hWa
  have x5 := HX.out.cell 5
  simp at x5
  go_loop [7] (fun i => ∃ k : Nat, i = .int .i64 k ∧ k ≤ B.ls.length ∧ ∀ j (h : j < B.ls.length), j < k → ledIs t r B.ls[j] = false) (fun i => B.ls.length - (intOf i).toNat)
  case atStart => exact ⟨0, rfl, Nat.zero_le _, fun j _ h => by omega⟩
  case round =>
    obtain ⟨k, rfl, hk, hall⟩ := hrel
    have HA := hide hall
    clear hall
    by_cases hlt : k < B.ls.length
    · obtain ⟨b, off, rfl, hbw, -, hc⟩ := HL.out.full' (by omega)
      obtain ⟨hs, hcell⟩ := hc k hlt
      obtain ⟨c0, c1, c2, c3⟩ := hcell.below HB.out hbw
      have HI : Hid (ledIs t r B.ls[k] = (B.ls[k].tm.toList == t.toList && B.ls[k].re.toList == r.toList)) := rfl
      clear hc hcell hs
      cases h1 : (B.ls[k].tm.toList == t.toList) with
      | false =>
        have HE : Hid (ledIs t r B.ls[k] = false) := by unfold Hid; rw [HI.out, h1]; rfl
        go_wp2
        go_round
        case rel => exact ⟨k + 1, by go_num, by omega, fun j hj hjk => by
                      by_cases e : j = k
                      · subst e; exact HE.out
                      · exact HA.out j hj (by omega)⟩
        case measure => simp [intOf]; omega
      | true =>
        cases h2 : (B.ls[k].re.toList == r.toList) with
        | false =>
          have HE : Hid (ledIs t r B.ls[k] = false) := by unfold Hid; rw [HI.out, h1, h2]; rfl
          go_wp2
          go_round
          case rel => exact ⟨k + 1, by go_num, by omega, fun j hj hjk => by
                        by_cases e : j = k
                        · subst e; exact HE.out
                        · exact HA.out j hj (by omega)⟩
          case measure => simp [intOf]; omega
        | true =>
          have HE : Hid (ledP B.ls t r = k) := ledP_yes hlt (by rw [HI.out, h1, h2]; rfl) HA.out
          go_wp2
          go_ret
          exact ⟨ret_int HE.out.symm, HB.out⟩
    · have HE : Hid (ledP B.ls t r = -1) := ledP_no (fun i hi => HA.out i hi (by omega))
      go_wp2
      go_ret
      exact ⟨ret_int HE.out.symm, HB.out⟩

set_option maxHeartbeats 1000000 in
theorem l5Out_any (h : BookAt lo w ov gv lv pv B) :
    Calls Tryz.prog 113 #[.agg #[.int .i64 B.now, .int .i64 B.tick, .int .i64 B.given, ov, gv, lv, pv], .string t, .string r] w fun e w' => e = .returned (.int .i64 (wrap64 (outZ B.ps t r))) ∧ Below w.heap.size w w' := by
  have HL := hide h.pus
  have hm := h.pus.max
  unfold maxLen at hm
  obtain ⟨a0, k0, rfl⟩ := h.obs.form
  obtain ⟨a1, k1, rfl⟩ := h.grs.form
  obtain ⟨a2, k2, rfl⟩ := h.les.form
  obtain ⟨a3, k3, rfl⟩ := h.pus.form
  clear h
  go_enter Tryz.func113, Tryz.ntmps113
  go_wp2_with fail
  generalize hWa : w.alloc _ = Wa
  have HB : Hid (Below w.heap.size w Wa) := by rw [← hWa]; exact one_al w _
  have HX : Hid (Box Wa w.heap.size #[.int .i64 B.now, .int .i64 B.tick, .int .i64 B.given, .slice a0 B.os.length k0, .slice a1 B.gs.length k1, .slice a2 B.ls.length k2, .slice a3 B.ps.length k3]) := by rw [← hWa]; exact Box.new _ _ _ _ rfl
  clear hWa
  have x5 := HX.out.cell 6
  simp at x5
  go_loop [7, 8] (fun n i => ∃ k : Nat, n = .int .i64 (wrap64 (outZ (B.ps.take k) t r)) ∧ i = .int .i64 k ∧ k ≤ B.ps.length) (fun _ i => B.ps.length - (intOf i).toNat)
  case atStart => exact ⟨0, by simp [outZ, wrap64], rfl, Nat.zero_le _⟩
  case round =>
    obtain ⟨k, rfl, rfl, hk⟩ := hrel
    by_cases hlt : k < B.ps.length
    · obtain ⟨b, off, rfl, hbw, -, hc⟩ := HL.out.full' (by omega)
      obtain ⟨hs, hcell⟩ := hc k hlt
      obtain ⟨c0, c1, c2, c3, c4⟩ := hcell.below HB.out hbw
      have HI : Hid (outOne t r B.ps[k] = if (B.ps[k].tm.toList == t.toList && B.ps[k].re.toList == r.toList) = true then B.ps[k].am else 0) := rfl
      have HU := hide (outZ_snoc (B.ps.take k) B.ps[k] t r)
      have HT := hide (List.take_succ_eq_append_getElem hlt)
      clear hc hcell hs
      cases h1 : (B.ps[k].tm.toList == t.toList) with
      | false =>
        have HE : Hid (outZ (B.ps.take (k + 1)) t r = outZ (B.ps.take k) t r) := by unfold Hid; rw [HT.out, HU.out, HI.out, h1]; simp
        go_wp2
        go_round
        case rel => exact ⟨k + 1, by rw [HE.out], by go_num, by omega⟩
        case measure => simp [intOf]; omega
      | true =>
        cases h2 : (B.ps[k].re.toList == r.toList) with
        | false =>
          have HE : Hid (outZ (B.ps.take (k + 1)) t r = outZ (B.ps.take k) t r) := by unfold Hid; rw [HT.out, HU.out, HI.out, h1, h2]; simp
          go_wp2
          go_round
          case rel => exact ⟨k + 1, by rw [HE.out], by go_num, by omega⟩
          case measure => simp [intOf]; omega
        | true =>
          have HE : Hid (outZ (B.ps.take (k + 1)) t r = outZ (B.ps.take k) t r + B.ps[k].am) := by unfold Hid; rw [HT.out, HU.out, HI.out, h1, h2]; simp
          go_wp2
          go_round
          case rel => exact ⟨k + 1, by rw [HE.out, wrap_add], by go_num, by omega⟩
          case measure => simp [intOf]; omega
    · have he : k = B.ps.length := by omega
      subst he
      have HE : Hid (outZ (B.ps.take B.ps.length) t r = outZ B.ps t r) := by unfold Hid; rw [List.take_length]
      go_wp2
      go_ret
      exact ⟨ret_int (by first | rw [HE.out] | rfl), HB.out⟩

set_option maxHeartbeats 1000000 in
theorem timesOk_any (h : BookAt lo w ov gv lv pv B) :
    Calls Tryz.prog 118 #[.agg #[.int .i64 B.now, .int .i64 B.tick, .int .i64 B.given, ov, gv, lv, pv]] w fun e w' => e = .returned (.bool (timesB B)) ∧ Below w.heap.size w w' := by
  obtain ⟨a0, k0, rfl⟩ := h.obs.form
  obtain ⟨a1, k1, rfl⟩ := h.grs.form
  obtain ⟨a2, k2, rfl⟩ := h.les.form
  obtain ⟨a3, k3, rfl⟩ := h.pus.form
  clear h
  have HI : Hid (timesB B = (inB 0 1000000 B.now && inB 0 1000000 B.tick && inB 0 B.now B.given)) := rfl
  cases h1 : inB 0 1000000 B.now with
  | false =>
    have HE : Hid (timesB B = false) := by unfold Hid; rw [HI.out, h1]; rfl
    go_enter Tryz.func118, Tryz.ntmps118
    go_wp2_with (go_at_call 99; refine (within_any _ _ _ _).mono ?_; rintro e w' ⟨rfl, rfl⟩)
    go_ret
    exact ⟨ret_bool HE.out.symm, one_al _ _⟩
  | true =>
    cases h2 : inB 0 1000000 B.tick with
    | false =>
      have HE : Hid (timesB B = false) := by unfold Hid; rw [HI.out, h1, h2]; rfl
      go_enter Tryz.func118, Tryz.ntmps118
      go_wp2_with (go_at_call 99; refine (within_any _ _ _ _).mono ?_; rintro e w' ⟨rfl, rfl⟩)
      go_ret
      exact ⟨ret_bool HE.out.symm, one_al _ _⟩
    | true =>
      have HE : Hid (timesB B = inB 0 B.now B.given) := by unfold Hid; rw [HI.out, h1, h2]; rfl
      go_enter Tryz.func118, Tryz.ntmps118
      go_wp2_with (go_at_call 99; refine (within_any _ _ _ _).mono ?_; rintro e w' ⟨rfl, rfl⟩)
      go_ret
      exact ⟨ret_bool HE.out.symm, one_al _ _⟩
end
end Go.Proofs.YthfdfdlojfdckaaGreat

namespace Go.Proofs.YthfdfdlojfdckaaGreat
open Go.RowKit Go.Deep

/-- the place of a thing among ones that rise: all ahead of it are less, none behind is -/
structure Spot {X : Type} (c : X → X → Int) (L : List X) (t : X) (p : Nat) : Prop where
  le : p ≤ L.length
  less : ∀ i (h : i < L.length), i < p → c L[i] t < 0
  more : ∀ i (h : i < L.length), p ≤ i → 0 ≤ c L[i] t
def isAt {X : Type} (c : X → X → Int) (L : List X) (t : X) (p : Nat) : Bool := match L[p]? with
  | some x => decide (c x t = 0)
  | none => false
def Rises {X : Type} (c : X → X → Int) (L : List X) (t : X) : Prop := ∀ i j (hi : i < L.length) (hj : j < L.length), i < j → c L[j] t < 0 → c L[i] t < 0
theorem half_lt {i j : Nat} (h : i < j) : i ≤ (i + j) / 2 ∧ (i + j) / 2 < j := by omega

abbrev HeldLes (w : World) (b o : Nat) (x t : Le) (W : World) : Prop :=
  W.cell? ⟨b, o, none⟩ = some (.string x.tm) ∧ W.cell? ⟨b, o + 1, none⟩ = some (.string x.re) ∧ W.cell? ⟨b, o + 2, none⟩ = some (.int .i64 x.mo) ∧ W.cell? ⟨b, o + 3, none⟩ = some (.int .i64 x.fr) ∧ W.cell? ⟨w.heap.size, 0, none⟩ = some (.string t.tm) ∧ W.cell? ⟨w.heap.size, 1, none⟩ = some (.string t.re) ∧ W.cell? ⟨w.heap.size, 2, none⟩ = some (.int .i64 t.mo) ∧ W.cell? ⟨w.heap.size, 3, none⟩ = some (.int .i64 t.fr) ∧ Hid (Below w.heap.size w W ∧ b < W.heap.size ∧ w.heap.size < W.heap.size)
theorem HeldLes.on {w : World} {b o : Nat} {x t : Le} {W W' : World} (h : HeldLes w b o x t W) (hb : Below W.heap.size W W') : HeldLes w b o x t W' := by
  obtain ⟨y0, y1, y2, y3, y4, y5, y6, y7, hh⟩ := h
  have e1 : ∀ o, W'.cell? ⟨b, o, none⟩ = W.cell? ⟨b, o, none⟩ := fun o => hb.cell (p := ⟨b, o, none⟩) hh.out.2.1
  have e2 : ∀ o, W'.cell? ⟨w.heap.size, o, none⟩ = W.cell? ⟨w.heap.size, o, none⟩ := fun o => hb.cell (p := ⟨w.heap.size, o, none⟩) hh.out.2.2
  exact ⟨(e1 _).trans y0, (e1 _).trans y1, (e1 _).trans y2, (e1 _).trans y3, (e2 _).trans y4, (e2 _).trans y5, (e2 _).trans y6, (e2 _).trans y7, ⟨hh.out.1.trans (hb.mono hh.out.1.size), Nat.lt_of_lt_of_le hh.out.2.1 hb.size, Nat.lt_of_lt_of_le hh.out.2.2 hb.size⟩⟩

set_option maxRecDepth 20000 in
set_option maxHeartbeats 4000000 in
theorem searchLes_any (lo : Nat) (v : Value) (Xl : List Le) (t : Le) (w : World) (hv : LesAt lo w v Xl) (hn : Xl.length ≤ 1048576) (hr : Rises cLes Xl t) :
    Calls Tryz.prog 190 #[v, .agg #[.string t.tm, .string t.re, .int .i64 t.mo, .int .i64 t.fr], .func (.func 156) #[] #[]] w
      fun e w' => (∃ p : Nat, Spot cLes Xl t p ∧ e = .returned (.tuple #[.int .i64 p, .bool (isAt cLes Xl t p)])) ∧ Below w.heap.size w w' := by
  have HV := hide hv
  have HR := hide hr
  obtain ⟨a, cap, rfl⟩ := hv.form
  clear hv hr
  go_enter Tryz.func190, Tryz.ntmps190
  go_wp2_with fail
  generalize hWa : w.alloc _ = Wa
  have HB : Hid (Below w.heap.size w Wa) := by rw [← hWa]; exact one_al w _
  have HX : Hid (Box Wa w.heap.size #[.string t.tm, .string t.re, .int .i64 t.mo, .int .i64 t.fr]) := by rw [← hWa]; exact Box.new _ _ _ _ rfl
  clear hWa
  go_loopw [9, 10] (fun i j wr => ∃ p q : Nat, i = .int .i64 p ∧ j = .int .i64 q ∧ p ≤ q ∧ q ≤ Xl.length ∧ (∀ k (h : k < Xl.length), k < p → cLes Xl[k] t < 0) ∧ (∀ k (h : k < Xl.length), q ≤ k → 0 ≤ cLes Xl[k] t) ∧ Below w.heap.size w wr ∧ Box wr w.heap.size #[.string t.tm, .string t.re, .int .i64 t.mo, .int .i64 t.fr])
    (fun i j _ => (intOf j).toNat - (intOf i).toNat)
  case atStart => exact ⟨0, Xl.length, rfl, rfl, Nat.zero_le _, Nat.le_refl _, fun k _ h => by omega, fun k h h' => by omega, HB.out, HX.out⟩
  case round =>
    obtain ⟨p, q, rfl, rfl, hpq, hq, h1, h2, hb, hx⟩ := hrel
    have HL1 := hide h1
    have HL2 := hide h2
    have HBr := hide hb
    have HXr := hide hx
    clear h1 h2 hb hx
    by_cases hlt : p < q
    · obtain ⟨hm1, hm2⟩ := half_lt hlt
      have hml : (p + q) / 2 < Xl.length := by omega
      obtain ⟨m, em⟩ : ∃ m : Nat, (p + q) / 2 = m := ⟨_, rfl⟩
      rw [em] at hm1 hm2 hml
      have em' : ((p : Int) + (q : Int)) / 2 = (m : Int) := by omega
      obtain ⟨b, off, rfl, hbw, -, hc⟩ := HV.out.full' (by omega)
      obtain ⟨hs, hcell⟩ := hc m hml
      obtain ⟨c0, c1, c2, c3⟩ := hcell.below HBr.out hbw
      have x := HXr.out.cell
      have x0 := x 0
      have x1 := x 1
      have x2 := x 2
      have x3 := x 3
      simp at x0 x1 x2 x3
      have EM := hide em
      clear hc hcell hs x em
      go_wp2
      go_region_with (go_at_call 156; refine (cmpLes_any Xl[m] t _).mono ?_; rintro e w1 ⟨rfl, hb1⟩; have hB : Hid (Below w.heap.size w w1) := (HBr.out.drew).trans (hb1.mono HBr.out.size); have hX : Hid (Box w1 w.heap.size #[.string t.tm, .string t.re, .int .i64 t.mo, .int .i64 t.fr]) := (HXr.out.drew).on hb1; clear hb1)
      all_goals by_cases hq : cmp2 Xl[m].tm Xl[m].re t.tm t.re < 0
      all_goals first
        | (have HT : Hid (cLes Xl[m] t < 0) := hq
           go_wp2
           go_roundw
           case rel => exact ⟨m + 1, q, by go_num, rfl, by omega, by omega, fun k hk hkm => by
                         by_cases e : k = m
                         · subst e; exact HT.out
                         · exact HR.out k m hk hml (by omega) HT.out, HL2.out, hB.out, hX.out⟩
           case measure => simp [intOf]; omega)
        | (have HT : Hid (0 ≤ cLes Xl[m] t) := by unfold Hid cLes; omega
           go_wp2
           go_roundw
           case rel => exact ⟨p, m, rfl, rfl, by omega, by omega, HL1.out, fun k hk hkm => by
                         by_cases e : k = m
                         · subst e; exact HT.out
                         · refine Int.not_lt.1 (fun hn' => ?_)
                           have := HR.out m k hml hk (by omega) hn'
                           have := HT.out
                           omega, hB.out, hX.out⟩
           case measure => simp [intOf]; omega)
    · have hpq' : p = q := by omega
      subst hpq'
      have HSP : Hid (Spot cLes Xl t p) := ⟨hq, HL1.out, HL2.out⟩
      by_cases hlt2 : p < Xl.length
      · obtain ⟨b, off, rfl, hbw, -, hc⟩ := HV.out.full' (by omega)
        obtain ⟨hs, hcell⟩ := hc p hlt2
        obtain ⟨c0, c1, c2, c3⟩ := hcell.below HBr.out hbw
        have x := HXr.out.cell
        have x0 := x 0
        have x1 := x 1
        have x2 := x 2
        have x3 := x 3
        simp at x0 x1 x2 x3
        have HI : Hid (isAt cLes Xl t p = decide (cmp2 Xl[p].tm Xl[p].re t.tm t.re = 0)) := by unfold Hid isAt; rw [List.getElem?_eq_getElem hlt2]; rfl
        have hd : decide ((p : Int) < (Xl.length : Int)) = true := by simp; omega
        clear hc hcell hs x
        go_wp2
        have HBD : Hid (Below w.heap.size w wr.drew) := HBr.out.drew
        have hbl : b < wr.heap.size := Nat.lt_of_lt_of_le hbw HBr.out.size
        have hxl := HXr.out.lt
        go_region_held3 (HeldLes w b (off + p * 4) Xl[p] t)
          (first
            | (exact ⟨c0, c1, c2, c3, x0, x1, x2, x3, ⟨HBD.out, hbl, hxl⟩⟩)
            | (with_reducible exact HeldLes.on (by assumption) (by assumption)))
          (first
            | (go_at_call 156
               refine (cmpLes_any Xl[p] t _).mono ?_
               rintro e w1 ⟨rfl, hb1⟩
               have hB : Hid (Below w.heap.size w w1) := HBD.out.trans (hb1.mono HBD.out.size)))
        all_goals go_wp2
        all_goals go_ret2
        all_goals exact ⟨⟨p, HSP.out, by rw [HI.out]; first | rfl | simp⟩, hB.out⟩
      · have HI : Hid (isAt cLes Xl t p = false) := by unfold Hid isAt; rw [List.getElem?_eq_none (by omega)]
        have hd : decide ((p : Int) < (Xl.length : Int)) = false := by simp; omega
        go_wp2
        go_quiet (fail)
        go_wp2
        go_ret2
        exact ⟨⟨p, HSP.out, by rw [HI.out]; rfl⟩, below_drewN HBr.out _⟩

abbrev HeldPus (w : World) (b o : Nat) (x t : Pu) (W : World) : Prop :=
  W.cell? ⟨b, o, none⟩ = some (.string x.dr) ∧ W.cell? ⟨b, o + 1, none⟩ = some (.string x.tm) ∧ W.cell? ⟨b, o + 2, none⟩ = some (.string x.re) ∧ W.cell? ⟨b, o + 3, none⟩ = some (.int .i64 x.am) ∧ W.cell? ⟨b, o + 4, none⟩ = some (.int .i64 x.un) ∧ W.cell? ⟨w.heap.size, 0, none⟩ = some (.string t.dr) ∧ W.cell? ⟨w.heap.size, 1, none⟩ = some (.string t.tm) ∧ W.cell? ⟨w.heap.size, 2, none⟩ = some (.string t.re) ∧ W.cell? ⟨w.heap.size, 3, none⟩ = some (.int .i64 t.am) ∧ W.cell? ⟨w.heap.size, 4, none⟩ = some (.int .i64 t.un) ∧ Hid (Below w.heap.size w W ∧ b < W.heap.size ∧ w.heap.size < W.heap.size)
theorem HeldPus.on {w : World} {b o : Nat} {x t : Pu} {W W' : World} (h : HeldPus w b o x t W) (hb : Below W.heap.size W W') : HeldPus w b o x t W' := by
  obtain ⟨y0, y1, y2, y3, y4, y5, y6, y7, y8, y9, hh⟩ := h
  have e1 : ∀ o, W'.cell? ⟨b, o, none⟩ = W.cell? ⟨b, o, none⟩ := fun o => hb.cell (p := ⟨b, o, none⟩) hh.out.2.1
  have e2 : ∀ o, W'.cell? ⟨w.heap.size, o, none⟩ = W.cell? ⟨w.heap.size, o, none⟩ := fun o => hb.cell (p := ⟨w.heap.size, o, none⟩) hh.out.2.2
  exact ⟨(e1 _).trans y0, (e1 _).trans y1, (e1 _).trans y2, (e1 _).trans y3, (e1 _).trans y4, (e2 _).trans y5, (e2 _).trans y6, (e2 _).trans y7, (e2 _).trans y8, (e2 _).trans y9, ⟨hh.out.1.trans (hb.mono hh.out.1.size), Nat.lt_of_lt_of_le hh.out.2.1 hb.size, Nat.lt_of_lt_of_le hh.out.2.2 hb.size⟩⟩

end Go.Proofs.YthfdfdlojfdckaaGreat

namespace Go.Proofs.YthfdfdlojfdckaaGreat
open Go.RowKit Go.Deep

theorem cmpS_trans {a b c : ByteArray} (h : cmpS a b < 0) (h' : cmpS b c < 0) : cmpS a c < 0 := cmpS_neg.2 (less_trans (cmpS_neg.1 h) (cmpS_neg.1 h'))
theorem orI_neg {a b : Int} : orI a b < 0 ↔ a < 0 ∨ (a = 0 ∧ b < 0) := by unfold orI; split <;> omega
theorem cmp2_neg {a b c d : ByteArray} : cmp2 a b c d < 0 ↔ cmpS a c < 0 ∨ (a = c ∧ cmpS b d < 0) := by
  unfold cmp2
  rw [orI_neg, cmpS_zero]
theorem cmp2_zero {a b c d : ByteArray} : cmp2 a b c d = 0 ↔ a = c ∧ b = d := by
  unfold cmp2
  rw [orI_zero, cmpS_zero, cmpS_zero]
theorem cmp2_trans {a b c d e f : ByteArray} (h : cmp2 a b c d < 0) (h' : cmp2 c d e f < 0) : cmp2 a b e f < 0 := by
  rw [cmp2_neg] at *
  rcases h with h | ⟨rfl, h⟩
  · rcases h' with h' | ⟨rfl, h'⟩
    · exact Or.inl (cmpS_trans h h')
    · exact Or.inl h
  · rcases h' with h' | ⟨rfl, h'⟩
    · exact Or.inl h'
    · exact Or.inr ⟨rfl, cmpS_trans h h'⟩
theorem cLes_trans (x y z : Le) (h : cLes x y < 0) (h' : cLes y z < 0) : cLes x z < 0 := cmp2_trans h h'
theorem ris_next {X : Type} {c : X → X → Int} {L : List X} (h : risB c L = true) {j : Nat} (hj : j + 1 < L.length) : c L[j] L[j + 1] < 0 := by
  have := range_is hj h
  rw [risI_at hj] at this
  exact of_decide_eq_true this
theorem ris_lt {X : Type} {c : X → X → Int} {L : List X} (tr : ∀ x y z, c x y < 0 → c y z < 0 → c x z < 0) (h : risB c L = true) (i : Nat) : ∀ (d : Nat) (hj : i + d + 1 < L.length), c (L[i]'(by omega)) L[i + d + 1] < 0
  | 0, hj => ris_next h hj
  | d + 1, hj => tr _ _ _ (ris_lt tr h i d (by omega)) (ris_next (j := i + d + 1) h hj)
theorem ris_less {X : Type} {c : X → X → Int} {L : List X} (tr : ∀ x y z, c x y < 0 → c y z < 0 → c x z < 0) (h : risB c L = true) {i j : Nat} (hi : i < L.length) (hj : j < L.length) (hij : i < j) : c L[i] L[j] < 0 := by
  obtain ⟨d, rfl⟩ : ∃ d, j = i + d + 1 := ⟨j - i - 1, by omega⟩
  exact ris_lt tr h i d hj
theorem ris_rises {X : Type} {c : X → X → Int} {L : List X} (tr : ∀ x y z, c x y < 0 → c y z < 0 → c x z < 0) (h : risB c L = true) (t : X) : Rises c L t :=
  fun _ _ hi hj hij h' => tr _ _ _ (ris_less tr h hi hj hij) h'
/-- among ones that rise a thing is at its spot, or nowhere -/
theorem spot_any {X : Type} {c : X → X → Int} {L : List X} {t : X} {p : Nat} (tr : ∀ x y z, c x y < 0 → c y z < 0 → c x z < 0) (sub : ∀ x y, c x y < 0 → c y t = 0 → c x t < 0) (h : risB c L = true) (hp : Spot c L t p) :
    isAt c L t p = L.any fun x => decide (c x t = 0) := by
  unfold isAt
  cases hx : L[p]? with
  | some x =>
    obtain ⟨hl, rfl⟩ := List.getElem?_eq_some_iff.1 hx
    show decide (c L[p] t = 0) = _
    by_cases h0 : c L[p] t = 0
    · rw [decide_eq_true h0]
      exact (List.any_eq_true.2 ⟨L[p], List.getElem_mem hl, decide_eq_true h0⟩).symm
    · rw [decide_eq_false h0]
      refine (List.any_eq_false.2 fun y hy hc => ?_).symm
      obtain ⟨i, hi, rfl⟩ := List.getElem_of_mem hy
      have hc' := of_decide_eq_true hc
      by_cases e : i < p
      · have := hp.less i hi e
        omega
      · by_cases e2 : i = p
        · subst e2; exact h0 hc'
        · have h1 := sub _ _ (ris_less tr h hl hi (by omega)) hc'
          have h2 := hp.more p hl (Nat.le_refl _)
          omega
  | none =>
    have hl : L.length ≤ p := List.getElem?_eq_none_iff.1 hx
    refine (List.any_eq_false.2 fun y hy hc => ?_).symm
    obtain ⟨i, hi, rfl⟩ := List.getElem_of_mem hy
    have := hp.less i hi (by omega)
    have := of_decide_eq_true hc
    omega
theorem led_any (Ls : List Le) (t r : ByteArray) : (Ls.any fun x => decide (cLes x ⟨t, r, 0, 0⟩ = 0)) = Ls.any (ledIs t r) := by
  congr 1
  funext x
  unfold ledIs cLes
  rw [Bool.eq_iff_iff, Bool.and_eq_true, bytes_eq, bytes_eq, decide_eq_true_iff, cmp2_zero]

set_option maxHeartbeats 1000000 in
theorem ledgerPlace_any (lo : Nat) (v : Value) (Ls : List Le) (t r : ByteArray) (w : World) (hv : LesAt lo w v Ls) (hn : Ls.length ≤ 1048576) (hr : risB cLes Ls = true) :
    Calls Tryz.prog 159 #[v, .string t, .string r] w
      fun e w' => (∃ p : Nat, Spot cLes Ls ⟨t, r, 0, 0⟩ p ∧ e = .returned (.tuple #[.int .i64 p, .bool (Ls.any (ledIs t r))])) ∧ Below w.heap.size w w' := by
  have HV := hide hv
  have HR := hide hr
  obtain ⟨a, cap, rfl⟩ := hv.form
  clear hv hr
  go_enter Tryz.func159, Tryz.ntmps159
  go_wp2_with fail
  refine (searchLes_any lo _ Ls ⟨t, r, 0, 0⟩ _ HV.out hn (ris_rises cLes_trans HR.out _)).mono ?_
  rintro e w1 ⟨⟨p, hp, rfl⟩, hb⟩
  have HP := hide hp
  have HB := hide hb
  have HE : Hid (isAt cLes Ls ⟨t, r, 0, 0⟩ p = Ls.any (ledIs t r)) := (spot_any cLes_trans (fun x y h h0 => by
    obtain ⟨e1, e2⟩ := cmp2_zero.1 h0
    unfold cLes at h ⊢
    simp only at e1 e2 ⊢
    rw [← e1, ← e2]
    exact h) HR.out hp).trans (led_any Ls t r)
  clear hp hb
  go_wp2
  go_ret2
  exact ⟨⟨p, HP.out, by rw [HE.out]; rfl⟩, HB.out⟩
end Go.Proofs.YthfdfdlojfdckaaGreat

