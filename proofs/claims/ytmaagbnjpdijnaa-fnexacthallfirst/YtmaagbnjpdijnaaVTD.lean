import Derived.Test.YtmaagbnjpdijnaaVTA
import Derived.BigQuiet
import Derived.Test.YtmaagbnjpdijnaaVTB
import Derived.ProofKit
import Derived.Deep.Strs
import Derived.Test.YtmaagbnjpdijnaaVDA
import Derived.Test.YtmaagbnjpdijnaaVA1
import Derived.Test.YtmaagbnjpdijnaaVB1
import Derived.Test.YtmaagbnjpdijnaaVB2
import Derived.Test.YtmaagbnjpdijnaaVNN
namespace Go.Proofs.Ytmaagbnjpdijnaa
open Go.RowKit Go.Deep

/-- the worlds of a class -/
structure In (C : World → Prop) where
  w : World
  h : C w
/-- a region that draws, walked once in the order of the text, every operation staying inside a class of worlds -/
theorem wp_region_class {P : Program} {id : Nat} {Q : Exit → Act → World → Prop} {a : Act} {w : World} {l : List Oper} (C : World → Prop) (hm : P.follows .mixedOrders = true) (hB : Region.lexB .any l.toArray = true) (hC : C w.drew)
    (h : wpQuiet P l.toArray (fun w' => ∃ X : In C, w' = X.w) (fun a' => ∀ w', (∃ X : In C, w' = X.w) → Q .normal a' w') l a) : (Code.region id l.toArray true).wp P Q a w :=
  wp_region_quiet (C := fun w' => ∃ X : In C, w' = X.w) hm hB ⟨⟨_, hC⟩, rfl⟩ (by simpa using h)
theorem in_self {C : World → Prop} (X : In C) : (∃ Y : In C, X.w = Y.w) = True := eq_true ⟨X, rfl⟩
/-- two boxes, and memory that is only added to -/
structure Cls (W0 : World) (b1 : Nat) (cs1 : Array Value) (b2 : Nat) (cs2 : Array Value) (W : World) : Prop where
  on : Below W0.heap.size W0 W
  x1 : Box W0 b1 cs1
  x2 : Box W0 b2 cs2
theorem Cls.c1 {W0 : World} {b1 : Nat} {cs1 : Array Value} {b2 : Nat} {cs2 : Array Value} (X : In (Cls W0 b1 cs1 b2 cs2)) (i : Nat) : X.w.cell? ⟨b1, i, none⟩ = cs1[i]? := (X.h.x1.on X.h.on).cell i
theorem Cls.c2 {W0 : World} {b1 : Nat} {cs1 : Array Value} {b2 : Nat} {cs2 : Array Value} (X : In (Cls W0 b1 cs1 b2 cs2)) (i : Nat) : X.w.cell? ⟨b2, i, none⟩ = cs2[i]? := (X.h.x2.on X.h.on).cell i
theorem Cls.next {W0 : World} {b1 : Nat} {cs1 : Array Value} {b2 : Nat} {cs2 : Array Value} (X : In (Cls W0 b1 cs1 b2 cs2)) {W' : World} (h : Below X.w.heap.size X.w W') : ∃ Y : In (Cls W0 b1 cs1 b2 cs2), W' = Y.w :=
  ⟨⟨W', ⟨X.h.on.trans (h.mono X.h.on.size), X.h.x1, X.h.x2⟩⟩, rfl⟩
end Go.Proofs.Ytmaagbnjpdijnaa

namespace Go.Proofs.Ytmaagbnjpdijnaa
open Go.RowKit Go.Deep

def vAt (L : List Int) (i : Nat) : Bool := match L[i]? with
  | none => false
  | some v => inB 1 5 v && (i == 0 || decide ((L[i - 1]?).getD 0 < v))
def vbsB (L : List Int) : Bool := decide (0 < L.length) && (List.range L.length).all (vAt L)
theorem vAt_zero {L : List Int} (h : 0 < L.length) : vAt L 0 = inB 1 5 L[0] := by unfold vAt; rw [List.getElem?_eq_getElem h]; simp
theorem vAt_succ {L : List Int} {j : Nat} (h : j + 1 < L.length) : vAt L (j + 1) = (inB 1 5 L[j + 1] && decide (L[j] < L[j + 1])) := by
  unfold vAt; rw [List.getElem?_eq_getElem h, Nat.add_sub_cancel, List.getElem?_eq_getElem (by omega)]; simp
theorem vAt_in {L : List Int} {k : Nat} (h : k < L.length) (hb : inB 1 5 L[k] = false) : vAt L k = false := by
  unfold vAt; rw [List.getElem?_eq_getElem h]; simp [hb]
theorem vbs_no {L : List Int} {k : Nat} (hk : k < L.length) (h : vAt L k = false) : vbsB L = false := by
  unfold vbsB; rw [range_not hk h]; simp
theorem vbs_yes {L : List Int} {k : Nat} (hk : L.length ≤ k) (hall : ∀ i, i < k → vAt L i = true) : vbsB L = decide (0 < L.length) := by
  unfold vbsB; rw [range_all (fun i hi => hall i (by omega))]; simp
def ruleB (r : Ru) : Bool := vbsB r.vb && emptyOrName r.kd && emptyOrName r.tm && decide ((r.pf.size : Int) ≤ 16) && allB nameByte r.pf
end Go.Proofs.Ytmaagbnjpdijnaa

namespace Go.Proofs.Ytmaagbnjpdijnaa
open Go.RowKit Go.Deep

theorem v_one {L : List Int} (h : vAt L 0 = true) : ∀ i, i < 1 → vAt L i = true := fun i hi => by
  have e : i = 0 := by omega
  subst e
  exact h

set_option maxHeartbeats 1000000 in
theorem verbsOk_any (lo : Nat) (v : Value) (L : List Int) (w : World) (hv : IntsIn lo w v L) :
    Calls Try.prog 81 #[v] w fun e w' => e = .returned (.bool (vbsB L)) ∧ w' = w := by
  by_cases hL : L = []
  · subst hL
    obtain ⟨a, cap, rfl⟩ := hv.form
    clear hv
    go_enter Try.func81, Try.ntmps81
    go_wp2
    go_loop [7] (fun i => i = .int .i64 0) (fun _ => 0)
    case atStart => rfl
    case round =>
      subst hrel
      go_wp2
      go_ret
      exact ⟨rfl, rfl⟩
  · obtain ⟨b, off, cap, rfl, hm, hbw, hc⟩ := hv.full hL
    clear hv
    unfold maxLen at hm
    go_enter Try.func81, Try.ntmps81
    go_wp2
    go_loop [7] (fun i => ∃ k : Nat, i = .int .i64 k ∧ k ≤ L.length ∧ ∀ i, i < k → vAt L i = true) (fun i => L.length - (intOf i).toNat)
    case atStart => exact ⟨0, rfl, by omega, fun i h => by omega⟩
    case round =>
      obtain ⟨k, rfl, hk, hall⟩ := hrel
      have HA := hide hall
      clear hall
      by_cases hlt : k < L.length
      · have c0 := hc k hlt
        by_cases h1 : L[k] < 1
        · have HR : Hid (vbsB L = false) := vbs_no hlt (vAt_in hlt (by unfold inB; simp; omega))
          go_wp2
          go_ret
          exact ⟨ret_bool HR.out.symm, rfl⟩
        by_cases h5 : 5 < L[k]
        · have HR : Hid (vbsB L = false) := vbs_no hlt (vAt_in hlt (by unfold inB; simp; omega))
          go_wp2
          go_ret
          exact ⟨ret_bool HR.out.symm, rfl⟩
        have HI : Hid (inB 1 5 L[k] = true) := by unfold Hid inB; simp; omega
        cases k with
        | zero =>
          have c0 : w.cell? ⟨b, off, none⟩ = some (.int .i64 L[0]) := by simpa using c0
          have HX : Hid (vAt L 0 = true) := by unfold Hid; rw [vAt_zero hlt]; exact HI.out
          go_wp2
          go_round
          case rel => exact ⟨1, by go_num, by omega, v_one HX.out⟩
          case measure => simp [intOf]; omega
        | succ j =>
          have cj := hc j (by omega)
          by_cases hls : L[j] < L[j + 1]
          · have HX : Hid (vAt L (j + 1) = true) := by unfold Hid; rw [vAt_succ hlt, HI.out, decide_eq_true hls]; rfl
            go_wp2
            go_round
            case rel => exact ⟨j + 2, by go_num, by omega, fun i hi => by
                          by_cases e : i = j + 1
                          · subst e; exact HX.out
                          · exact HA.out i (by omega)⟩
            case measure => simp [intOf]; omega
          · have HR : Hid (vbsB L = false) := vbs_no hlt (by rw [vAt_succ hlt, decide_eq_false hls]; simp)
            go_wp2
            go_ret
            exact ⟨ret_bool HR.out.symm, rfl⟩
      · have HR : Hid (vbsB L = decide (0 < L.length)) := vbs_yes (by omega) HA.out
        have hpos : 0 < L.length := List.length_pos_iff.2 hL
        have HT : Hid (decide (0 < L.length) = true) := by unfold Hid; simpa using hpos
        go_wp2
        go_ret
        exact ⟨ret_bool (by rw [HR.out, HT.out]), rfl⟩

set_option maxHeartbeats 2000000 in
theorem implRule_any (lo : Nat) (r : Ru) (vv : Value) (w : World) (hv : IntsIn lo w vv r.vb) (hz : RuSize r) :
    Calls Try.prog 48 #[.agg #[vv, .string r.kd, .string r.tm, .string r.pf]] w fun e w' => e = .returned (.bool (ruleB r)) ∧ Below w.heap.size w w' := by
  have HV := hide hv
  have HZ := hide hz
  obtain ⟨a, cap, rfl⟩ := hv.form
  clear hv hz
  have hsz := HZ.out.s3
  unfold maxLen at hsz
  go_enter Try.func48, Try.ntmps48
  go_wp2_with fail
  generalize hWa : w.alloc _ = Wa
  have HBa : Hid (Below w.heap.size w Wa) := by rw [← hWa]; exact one_al _ _
  have FA : Hid (Box Wa w.heap.size #[.slice a r.vb.length cap, .string r.kd, .string r.tm, .string r.pf]) := by rw [← hWa]; exact Box.new _ _ _ _ rfl
  clear hWa
  refine (verbsOk_any lo _ r.vb _ (HV.out.below HBa.out)).mono ?_
  rintro e w1 ⟨rfl, rfl⟩
  have a1 : w1.cell? ⟨w.heap.size, 1, none⟩ = some (.string r.kd) := FA.out.cell 1
  have a2 : w1.cell? ⟨w.heap.size, 2, none⟩ = some (.string r.tm) := FA.out.cell 2
  have a3 : w1.cell? ⟨w.heap.size, 3, none⟩ = some (.string r.pf) := FA.out.cell 3
  cases q1 : vbsB r.vb with
  | false =>
    have HR : Hid (ruleB r = false) := by unfold Hid ruleB; rw [q1]; rfl
    go_wp2
    go_ret
    exact ⟨ret_bool HR.out.symm, HBa.out⟩
  | true =>
    go_wp2_with fail
    refine (emptyOrName_any r.kd _ HZ.out.s1).mono ?_
    rintro e w2 ⟨rfl, rfl⟩
    cases q2 : emptyOrName r.kd with
    | false =>
      have HR : Hid (ruleB r = false) := by unfold Hid ruleB; rw [q1, q2]; rfl
      go_wp2
      go_ret
      exact ⟨ret_bool HR.out.symm, HBa.out⟩
    | true =>
      go_wp2_with fail
      refine (emptyOrName_any r.tm _ HZ.out.s2).mono ?_
      rintro e w3 ⟨rfl, rfl⟩
      cases q3 : emptyOrName r.tm with
      | false =>
        have HR : Hid (ruleB r = false) := by unfold Hid ruleB; rw [q1, q2, q3]; rfl
        go_wp2
        go_ret
        exact ⟨ret_bool HR.out.symm, HBa.out⟩
      | true =>
        by_cases q4 : (r.pf.size : Int) ≤ 16
        · have HR : Hid (ruleB r = allB nameByte r.pf) := by unfold Hid ruleB; rw [q1, q2, q3, decide_eq_true q4]; rfl
          go_wp2_with fail
          refine (nameBytes_any r.pf _ HZ.out.s3).mono ?_
          rintro e w4 ⟨rfl, rfl⟩
          generalize allB nameByte r.pf = Q at *
          go_wp2
          go_ret
          exact ⟨ret_bool HR.out.symm, HBa.out⟩
        · have HR : Hid (ruleB r = false) := by unfold Hid ruleB; rw [decide_eq_false q4]; simp
          go_wp2
          go_ret
          exact ⟨ret_bool HR.out.symm, HBa.out⟩
end Go.Proofs.Ytmaagbnjpdijnaa

namespace Go.Proofs.Ytmaagbnjpdijnaa
open Go.ChangeShapes Go.WideShapes Go.ChangeAt Go.RowKit Go.Deep

theorem Try.cells103 : Try.prog.cellsOf 103 = 2 := by kernel_rfl
section
variable {H : Type} {enc : TypeId × Value → H} {W : World}
set_option maxRecDepth 100000 in
theorem open_tm {fuel : Nat} {cs : List Value} {x : DataW H × List MemPlace} (h : DataW.trod enc Try.prog W 0 (fun _ => true) true fuel 103 cs = some x) :
    ∃ (m : Tm), cs = [.string m.nm, .string m.ov] ∧ TmSize m := by
  obtain ⟨xs, n, _, _, hl, hlen, hfld⟩ := DataW.trod_struct Try.underlying103 h
  obtain ⟨c0, c1, rfl⟩ := list2 (hl.trans Try.cells103)
  simp only [Array.size, List.length_cons, List.length_nil] at hlen
  have g0 : DataW.trod enc Try.prog W 0 (fun _ => true) true n 9 ((([c0, c1] : List Value).drop 0).take (Try.prog.cellsOf 9)) = xs[0]? := hfld 0 _ rfl
  have g1 : DataW.trod enc Try.prog W 0 (fun _ => true) true n 9 ((([c0, c1] : List Value).drop 1).take (Try.prog.cellsOf 9)) = xs[1]? := hfld 1 _ rfl
  simp only [Try.cells9, List.drop_succ_cons, List.drop_zero, List.take_succ_cons, List.take_zero] at g0 g1
  rw [List.getElem?_eq_getElem (by omega)] at g0 g1
  obtain ⟨k, e0, _, s0⟩ := DataW.trod_string Try.underlying9 g0
  obtain ⟨f, e1, _, s1⟩ := DataW.trod_string Try.underlying9 g1
  simp only [List.cons.injEq, and_true] at e0 e1
  subst e0 e1
  exact ⟨⟨k, f⟩, rfl, ⟨s0, s1⟩⟩

set_option maxRecDepth 100000 in
theorem open_tms {fuel : Nat} {c : Value} {x : DataW H × List MemPlace} (h : DataW.trod enc Try.prog W 0 (fun _ => true) true fuel 22 [c] = some x) : ∃ Ts, TmsAt 0 W c Ts := by
  rcases open_slice Try.underlying22 h with ⟨hcs, _⟩ | ⟨a, len, cap, m, n, D, Pl, hcs, _, hl, hm, hmm, _, hx⟩
  · simp only [List.cons.injEq, and_true] at hcs
    exact ⟨[], Or.inl ⟨_, _, hcs, rfl⟩⟩
  · simp only [List.cons.injEq, and_true] at hcs
    simp only [if_true] at hmm
    subst hmm
    rw [Try.cells103] at hx
    by_cases h0 : len = 0
    · subst h0
      exact ⟨[], Or.inl ⟨_, _, hcs, rfl⟩⟩
    · obtain ⟨Ts, hF, hall⟩ := choose_list (p := fun i (m : Tm) => TmSize m ∧ W.cells? 0 (a.add (i * 2)) 2 = some [.string m.nm, .string m.ov]) len (fun i hi => by
        obtain ⟨cs', h1, h2⟩ := hx i (by omega)
        obtain ⟨md, e, hz⟩ := open_tm h2
        rw [e] at h1
        exact ⟨md, hz, h1⟩)
      obtain ⟨b, off, spot⟩ := a
      have hspot : spot = none := by
        obtain ⟨_, h1⟩ := hall 0 (by omega)
        have := (World.cells?_some h1).2.2 0 (by omega)
        rw [Nat.zero_mul] at this
        have e0 : ((⟨b, off, spot⟩ : Addr).add 0).add 0 = ⟨b, off, spot⟩ := by simp [Addr.add]
        rw [e0] at this
        simpa using World.cell?_spot (by simpa using this)
      subst hspot
      have hcell : ∀ i (hi : i < Ts.length), W.cells? 0 ((⟨b, off, none⟩ : Addr).add (i * 2)) 2 = some [.string Ts[i].nm, .string Ts[i].ov] → TmCells W b (off + i * 2) Ts[i] := fun i hi h1 => by
        obtain ⟨_, _, hc⟩ := World.cells?_some h1
        rw [add_plain] at hc
        have q := fun j (hj : j < 2) => (add_plain b (off + i * 2) j) ▸ hc j hj
        exact ⟨by simpa using q 0 (by omega), by simpa using q 1 (by omega)⟩
      have hbw : b < W.heap.size := by
        obtain ⟨_, h1⟩ := hall 0 (by omega)
        exact World.block_lt_of_cell? W _ (hcell 0 (by omega) h1).c0
      refine ⟨Ts, Or.inr ⟨b, off, m, by rw [hcs, hF], ?_, by omega, hbw, Nat.zero_le _, by omega, fun i hi => ?_⟩⟩
      · intro e; rw [e] at hF; simp at hF; omega
      · obtain ⟨hz, h1⟩ := hall i hi
        exact ⟨hz, hcell i hi h1⟩
end
end Go.Proofs.Ytmaagbnjpdijnaa

