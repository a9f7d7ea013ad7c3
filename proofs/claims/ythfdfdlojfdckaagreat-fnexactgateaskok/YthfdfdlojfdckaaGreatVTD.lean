import Derived.Test.YthfdfdlojfdckaaGreatVTA
import Derived.BigQuiet
import Derived.Test.YthfdfdlojfdckaaGreatVTB
import Derived.ProofKit
import Derived.Deep.Strs
import Derived.Test.YthfdfdlojfdckaaGreatVDA
import Derived.Test.YthfdfdlojfdckaaGreatVA1
import Derived.Test.YthfdfdlojfdckaaGreatVB1
import Derived.Test.YthfdfdlojfdckaaGreatVB2
import Derived.Test.YthfdfdlojfdckaaGreatVOpX
namespace Go.Proofs.YthfdfdlojfdckaaGreat
open Go.RowKit Go.Deep

/-- the worlds of a class -/
structure In (C : World → Prop) where
  w : World
  h : C w
/-- a region that draws, walked once in the order of the text, every operation staying inside a class of worlds -/
theorem wp_region_class {P : Program} {id : Nat} {Q : Exit → Act → World → Prop} {a : Act} {w : World} {l : List Oper} (C : World → Prop) (hm : P.follows .mixedOrders = true) (hB : Region.lexB .any l.toArray = true) (hC : C w.drew)
    (h : wpQuiet P l.toArray (fun w' => ∃ X : In C, w' = X.w) (fun a' => ∀ w', (∃ X : In C, w' = X.w) → Q .normal a' w') l a) : (Code.region id l.toArray true).wp P Q a w :=
  wp_region_quiet (C := fun w' => ∃ X : In C, w' = X.w) hm hB ⟨⟨_, hC⟩, rfl⟩ (by simpa using h)
theorem in_self {C : World → Prop} (X : In C) : (∃ Y : In C, X.w = Y.w) = True := eq_true ⟨X, rfl⟩
/-- two boxes, and memory that is only added to -/
structure Cls (W0 : World) (b1 : Nat) (cs1 : Array Value) (b2 : Nat) (cs2 : Array Value) (W : World) : Prop where
  on : Below W0.heap.size W0 W
  x1 : Box W0 b1 cs1
  x2 : Box W0 b2 cs2
theorem Cls.c1 {W0 : World} {b1 : Nat} {cs1 : Array Value} {b2 : Nat} {cs2 : Array Value} (X : In (Cls W0 b1 cs1 b2 cs2)) (i : Nat) : X.w.cell? ⟨b1, i, none⟩ = cs1[i]? := (X.h.x1.on X.h.on).cell i
theorem Cls.c2 {W0 : World} {b1 : Nat} {cs1 : Array Value} {b2 : Nat} {cs2 : Array Value} (X : In (Cls W0 b1 cs1 b2 cs2)) (i : Nat) : X.w.cell? ⟨b2, i, none⟩ = cs2[i]? := (X.h.x2.on X.h.on).cell i
theorem Cls.next {W0 : World} {b1 : Nat} {cs1 : Array Value} {b2 : Nat} {cs2 : Array Value} (X : In (Cls W0 b1 cs1 b2 cs2)) {W' : World} (h : Below X.w.heap.size X.w W') : ∃ Y : In (Cls W0 b1 cs1 b2 cs2), W' = Y.w :=
  ⟨⟨W', ⟨X.h.on.trans (h.mono X.h.on.size), X.h.x1, X.h.x2⟩⟩, rfl⟩
end Go.Proofs.YthfdfdlojfdckaaGreat

namespace Go.Proofs.YthfdfdlojfdckaaGreat
open Go.RowKit Go.Deep

theorem ret_u8 {a b : Int} (h : a = b) : Ending.returned (.int .u8 a) = .returned (.int .u8 b) := by rw [h]
/-- a set of the verbs 1 to 5, a bit each -/
def numB (b1 b2 b3 b4 b5 : Bool) : Int := (if b1 then 2 else 0) + (if b2 then 4 else 0) + (if b3 then 8 else 0) + (if b4 then 16 else 0) + (if b5 then 32 else 0)
theorem numB_or : ∀ a1 a2 a3 a4 a5 c1 c2 c3 c4 c5 : Bool, bits .or .u8 (numB a1 a2 a3 a4 a5) (numB c1 c2 c3 c4 c5) = numB (a1 || c1) (a2 || c2) (a3 || c3) (a4 || c4) (a5 || c5) := by decide +kernel
theorem numB_and : ∀ a1 a2 a3 a4 a5 c1 c2 c3 c4 c5 : Bool, bits .and .u8 (numB a1 a2 a3 a4 a5) (numB c1 c2 c3 c4 c5) = numB (a1 && c1) (a2 && c2) (a3 && c3) (a4 && c4) (a5 && c5) := by decide +kernel
theorem numB_zero : ∀ a1 a2 a3 a4 a5 : Bool, (numB a1 a2 a3 a4 a5 == 0) = (!a1 && !a2 && !a3 && !a4 && !a5) := by decide +kernel
def num (p : Int → Bool) : Int := numB (p 1) (p 2) (p 3) (p 4) (p 5)
theorem num_or (p q : Int → Bool) : bits .or .u8 (num p) (num q) = num (fun v => p v || q v) := numB_or _ _ _ _ _ _ _ _ _ _
theorem num_and (p q : Int → Bool) : bits .and .u8 (num p) (num q) = num (fun v => p v && q v) := numB_and _ _ _ _ _ _ _ _ _ _
theorem num_none : num (fun _ => false) = 0 := rfl
theorem num_congr {p q : Int → Bool} (h : ∀ v, 1 ≤ v → v ≤ 5 → p v = q v) : num p = num q := by
  unfold num; rw [h 1 (by omega) (by omega), h 2 (by omega) (by omega), h 3 (by omega) (by omega), h 4 (by omega) (by omega), h 5 (by omega) (by omega)]
def hasV (L : List Int) (v : Int) : Bool := L.any fun x => x == v
theorem hasV_snoc (L : List Int) (x v : Int) : hasV (L ++ [x]) v = (hasV L v || v == x) := by
  unfold hasV
  rw [List.any_append, List.any_cons, List.any_nil, Bool.or_false]
  have e : (x == v) = (v == x) := by
    rw [Bool.eq_iff_iff, beq_iff_eq, beq_iff_eq]; exact eq_comm
  rw [e]
theorem take_next {L : List Int} {k : Nat} (h : k < L.length) : L.take (k + 1) = L.take k ++ [L[k]] := by rw [List.take_succ_eq_append_getElem h]
theorem hasV_stop {L : List Int} {v : Int} {k : Nat} (h : k < L.length) (hp : (L[k] == v) = true) : hasV L v = true := by
  unfold hasV; rw [List.any_eq_true]; exact ⟨L[k], List.getElem_mem h, hp⟩
theorem hasV_no {L : List Int} {v : Int} (hall : ∀ i (h : i < L.length), (L[i] == v) = false) : hasV L v = false := by
  unfold hasV; rw [List.any_eq_false]
  intro x hx
  obtain ⟨i, hi, rfl⟩ := List.getElem_of_mem hx
  simp [hall i hi]
theorem hasV_mem {L : List Int} {v : Int} : hasV L v = true ↔ v ∈ L := by
  unfold hasV; rw [List.any_eq_true]
  constructor
  · rintro ⟨x, hx, h⟩; rw [beq_iff_eq] at h; subst h; exact hx
  · exact fun h => ⟨v, h, by simp⟩
def beginsB (s p : ByteArray) : Bool := decide ((p.size : Int) ≤ s.size) && ((s.extract 0 p.size).toList == p.toList)
def vAt (L : List Int) (i : Nat) : Bool := match L[i]? with
  | none => false
  | some v => inB 1 5 v && (i == 0 || decide ((L[i - 1]?).getD 0 < v))
def vbsB (L : List Int) : Bool := decide (0 < L.length) && (List.range L.length).all (vAt L)
theorem vAt_zero {L : List Int} (h : 0 < L.length) : vAt L 0 = inB 1 5 L[0] := by unfold vAt; rw [List.getElem?_eq_getElem h]; simp
theorem vAt_succ {L : List Int} {j : Nat} (h : j + 1 < L.length) : vAt L (j + 1) = (inB 1 5 L[j + 1] && decide (L[j] < L[j + 1])) := by
  unfold vAt; rw [List.getElem?_eq_getElem h, Nat.add_sub_cancel, List.getElem?_eq_getElem (by omega)]; simp
theorem vAt_in {L : List Int} {k : Nat} (h : k < L.length) (hb : inB 1 5 L[k] = false) : vAt L k = false := by
  unfold vAt; rw [List.getElem?_eq_getElem h]; simp [hb]
theorem vbs_no {L : List Int} {k : Nat} (hk : k < L.length) (h : vAt L k = false) : vbsB L = false := by
  unfold vbsB; rw [range_not hk h]; simp
theorem vbs_yes {L : List Int} {k : Nat} (hk : L.length ≤ k) (hall : ∀ i, i < k → vAt L i = true) : vbsB L = decide (0 < L.length) := by
  unfold vbsB; rw [range_all (fun i hi => hall i (by omega))]; simp
def ruleB (r : Ru) : Bool := vbsB r.vb && emptyOrName r.kd && emptyOrName r.tm && decide ((r.pf.size : Int) ≤ 16) && allB nameByte r.pf
/-- what of a rule is not its verbs meets what is asked for -/
def matchB (Ts : List Tm) (r : Ru) (kind team name : ByteArray) : Bool :=
  (r.kd.toList.isEmpty || r.kd.toList == kind.toList) && (r.tm.toList.isEmpty || underB Ts team r.tm) && beginsB name r.pf
def givesP (Ts : List Tm) (r : Ru) (kind team name : ByteArray) (v : Int) : Bool := matchB Ts r kind team name && hasV r.vb v
theorem gives_no {Ts : List Tm} {r : Ru} {kind team name : ByteArray} (h : matchB Ts r kind team name = false) : num (givesP Ts r kind team name) = 0 := by
  rw [← num_none]; exact num_congr fun v _ _ => by unfold givesP; rw [h]; rfl
theorem gives_yes {Ts : List Tm} {r : Ru} {kind team name : ByteArray} (h : matchB Ts r kind team name = true) : num (givesP Ts r kind team name) = num (hasV r.vb) :=
  num_congr fun v _ _ => by unfold givesP; rw [h]; rfl
/-- the verbs of a rule that is ok -/
theorem vbs_in {L : List Int} (h : vbsB L = true) {v : Int} (hv : hasV L v = true) : 1 ≤ v ∧ v ≤ 5 := by
  unfold vbsB at h
  rw [Bool.and_eq_true] at h
  obtain ⟨k, hk, rfl⟩ := List.getElem_of_mem (hasV_mem.1 hv)
  have := range_is hk h.2
  unfold vAt at this
  rw [List.getElem?_eq_getElem hk] at this
  simp [inB] at this
  omega
theorem rule_vbs {r : Ru} (h : ruleB r = true) : vbsB r.vb = true := by
  unfold ruleB at h
  simp only [Bool.and_eq_true] at h
  exact h.1.1.1.1

set_option maxHeartbeats 400000 in
theorem verb_any (v : Int) (w : World) : Calls Tryz.prog 164 #[.int .i64 v] w fun e w' => e = .returned (.int .u8 (num fun u => u == v)) ∧ w' = w := by
  by_cases h1 : v < 1
  · have HR : Hid (num (fun u => u == v) = 0) := by
      unfold Hid; rw [← num_none]; exact num_congr fun u _ _ => by simp; omega
    go_enter Tryz.func164, Tryz.ntmps164
    go_wp2
    go_ret
    exact ⟨ret_u8 HR.out.symm, rfl⟩
  by_cases h5 : 5 < v
  · have HR : Hid (num (fun u => u == v) = 0) := by
      unfold Hid; rw [← num_none]; exact num_congr fun u _ _ => by simp; omega
    go_enter Tryz.func164, Tryz.ntmps164
    go_wp2
    go_ret
    exact ⟨ret_u8 HR.out.symm, rfl⟩
  have hc : v = 1 ∨ v = 2 ∨ v = 3 ∨ v = 4 ∨ v = 5 := by omega
  clear h1 h5
  rcases hc with rfl | rfl | rfl | rfl | rfl
  all_goals
    go_enter Tryz.func164, Tryz.ntmps164
    go_wp2
    go_ret
    exact ⟨ret_u8 (by decide +kernel), rfl⟩

set_option maxHeartbeats 400000 in
theorem hasMask_any (p : Int → Bool) (v : Int) (w : World) : Calls Tryz.prog 125 #[.int .u8 (num p), .int .i64 v] w fun e w' => e = .returned (.bool (inB 1 5 v && p v)) ∧ w' = w := by
  have HR : Hid ((bits .and .u8 (num p) (num fun u => u == v) != 0) = (inB 1 5 v && p v)) := by
    unfold Hid
    rw [num_and, bne, show num (fun u => p u && u == v) = numB (p 1 && 1 == v) (p 2 && 2 == v) (p 3 && 3 == v) (p 4 && 4 == v) (p 5 && 5 == v) from rfl, numB_zero]
    by_cases hc : v = 1 ∨ v = 2 ∨ v = 3 ∨ v = 4 ∨ v = 5
    · rcases hc with rfl | rfl | rfl | rfl | rfl <;> simp [inB]
    · have q : inB 1 5 v = false := by unfold inB; simp; omega
      rw [q]
      have e1 : ((1 : Int) == v) = false := by simp; omega
      have e2 : ((2 : Int) == v) = false := by simp; omega
      have e3 : ((3 : Int) == v) = false := by simp; omega
      have e4 : ((4 : Int) == v) = false := by simp; omega
      have e5 : ((5 : Int) == v) = false := by simp; omega
      simp [e1, e2, e3, e4, e5]
  go_enter Tryz.func125, Tryz.ntmps125
  go_wp2_with fail
  refine (verb_any v _).mono ?_
  rintro e w1 ⟨rfl, rfl⟩
  generalize hx : num p = x at *
  generalize hy : num (fun u => u == v) = y at *
  go_wp2
  go_ret
  exact ⟨ret_bool HR.out, rfl⟩

set_option maxHeartbeats 1000000 in
theorem verbsOf_any (lo : Nat) (v : Value) (L : List Int) (w : World) (hv : IntsIn lo w v L) :
    Calls Tryz.prog 194 #[v] w fun e w' => e = .returned (.int .u8 (num (hasV L))) ∧ w' = w := by
  by_cases hL : L = []
  · subst hL
    obtain ⟨a, cap, rfl⟩ := hv.form
    clear hv
    go_enter Tryz.func194, Tryz.ntmps194
    go_wp2
    go_loop [3, 8] (fun x i => x = .int .u8 0 ∧ i = .int .i64 0) (fun _ _ => 0)
    case atStart => exact ⟨rfl, rfl⟩
    case round =>
      obtain ⟨rfl, rfl⟩ := hrel
      go_wp2
      go_ret
      exact ⟨rfl, rfl⟩
  · obtain ⟨b, off, cap, rfl, hm, hbw, hc⟩ := hv.full hL
    clear hv
    unfold maxLen at hm
    go_enter Tryz.func194, Tryz.ntmps194
    go_wp2
    go_loop [3, 8] (fun x i => ∃ k : Nat, x = .int .u8 (num (hasV (L.take k))) ∧ i = .int .i64 k ∧ k ≤ L.length) (fun _ i => L.length - (intOf i).toNat)
    case atStart => exact ⟨0, rfl, rfl, by omega⟩
    case round =>
      obtain ⟨k, rfl, rfl, hk⟩ := hrel
      by_cases hlt : k < L.length
      · have c0 := hc k hlt
        have HN : Hid (bits .or .u8 (num (hasV (L.take k))) (num fun u => u == L[k]) = num (hasV (L.take (k + 1)))) := by
          unfold Hid
          rw [num_or]
          exact num_congr fun u _ _ => by rw [take_next hlt, hasV_snoc]
        generalize hx : num (hasV (L.take k)) = x at *
        go_wp2_with fail
        refine (verb_any _ _).mono ?_
        rintro e w1 ⟨rfl, rfl⟩
        generalize hy : num (fun u => u == L[k]) = y at *
        go_wp2
        go_round
        case rel => exact ⟨k + 1, by rw [HN.out], by go_num, by omega⟩
        case measure => simp [intOf]; omega
      · have HN : Hid (num (hasV (L.take k)) = num (hasV L)) := by unfold Hid; rw [List.take_of_length_le (by omega)]
        generalize hx : num (hasV (L.take k)) = x at *
        go_wp2
        go_ret
        exact ⟨ret_u8 HN.out, rfl⟩
end Go.Proofs.YthfdfdlojfdckaaGreat

namespace Go.Proofs.YthfdfdlojfdckaaGreat
open Go.RowKit Go.Deep

set_option maxHeartbeats 400000 in
theorem l4Begins_any (s p : ByteArray) (w : World) : Calls Tryz.prog 116 #[.string s, .string p] w fun e w' => e = .returned (.bool (beginsB s p)) ∧ w' = w := by
  by_cases h : (p.size : Int) ≤ s.size
  · have HR : Hid (beginsB s p = ((s.extract 0 p.size).toList == p.toList)) := by unfold Hid beginsB; rw [decide_eq_true h]; rfl
    go_enter Tryz.func116, Tryz.ntmps116
    go_wp2
    go_ret
    exact ⟨ret_bool HR.out.symm, rfl⟩
  · have HR : Hid (beginsB s p = false) := by unfold Hid beginsB; rw [decide_eq_false h]; rfl
    go_enter Tryz.func116, Tryz.ntmps116
    go_wp2
    go_ret
    exact ⟨ret_bool HR.out.symm, rfl⟩
set_option maxHeartbeats 400000 in
theorem litePrefix_any (s p : ByteArray) (w : World) : Calls Tryz.prog 216 #[.string s, .string p] w fun e w' => e = .returned (.bool (beginsB s p)) ∧ w' = w := by
  by_cases h : (p.size : Int) ≤ s.size
  · have HR : Hid (beginsB s p = ((s.extract 0 p.size).toList == p.toList)) := by unfold Hid beginsB; rw [decide_eq_true h]; rfl
    go_enter Tryz.func216, Tryz.ntmps216
    go_wp2
    go_ret
    exact ⟨ret_bool HR.out.symm, rfl⟩
  · have HR : Hid (beginsB s p = false) := by unfold Hid beginsB; rw [decide_eq_false h]; rfl
    go_enter Tryz.func216, Tryz.ntmps216
    go_wp2
    go_ret
    exact ⟨ret_bool HR.out.symm, rfl⟩
set_option maxHeartbeats 400000 in
theorem hasPrefix_any (s p : ByteArray) (w : World) : Calls Tryz.prog 193 #[.string s, .string p] w fun e w' => e = .returned (.bool (beginsB s p)) ∧ w' = w := by
  go_enter Tryz.func193, Tryz.ntmps193
  go_wp2_with fail
  refine (litePrefix_any s p _).mono ?_
  rintro e w1 ⟨rfl, rfl⟩
  go_wp2
  go_ret
  exact ⟨rfl, rfl⟩

theorem v_one {L : List Int} (h : vAt L 0 = true) : ∀ i, i < 1 → vAt L i = true := fun i hi => by
  have e : i = 0 := by omega
  subst e
  exact h

set_option maxHeartbeats 1000000 in
theorem verbsOk_any (lo : Nat) (v : Value) (L : List Int) (w : World) (hv : IntsIn lo w v L) :
    Calls Tryz.prog 189 #[v] w fun e w' => e = .returned (.bool (vbsB L)) ∧ w' = w := by
  by_cases hL : L = []
  · subst hL
    obtain ⟨a, cap, rfl⟩ := hv.form
    clear hv
    go_enter Tryz.func189, Tryz.ntmps189
    go_wp2
    go_loop [7] (fun i => i = .int .i64 0) (fun _ => 0)
    case atStart => rfl
    case round =>
      subst hrel
      go_wp2
      go_ret
      exact ⟨rfl, rfl⟩
  · obtain ⟨b, off, cap, rfl, hm, hbw, hc⟩ := hv.full hL
    clear hv
    unfold maxLen at hm
    go_enter Tryz.func189, Tryz.ntmps189
    go_wp2
    go_loop [7] (fun i => ∃ k : Nat, i = .int .i64 k ∧ k ≤ L.length ∧ ∀ i, i < k → vAt L i = true) (fun i => L.length - (intOf i).toNat)
    case atStart => exact ⟨0, rfl, by omega, fun i h => by omega⟩
    case round =>
      obtain ⟨k, rfl, hk, hall⟩ := hrel
      have HA := hide hall
      clear hall
      by_cases hlt : k < L.length
      · have c0 := hc k hlt
        by_cases h1 : L[k] < 1
        · have HR : Hid (vbsB L = false) := vbs_no hlt (vAt_in hlt (by unfold inB; simp; omega))
          go_wp2
          go_ret
          exact ⟨ret_bool HR.out.symm, rfl⟩
        by_cases h5 : 5 < L[k]
        · have HR : Hid (vbsB L = false) := vbs_no hlt (vAt_in hlt (by unfold inB; simp; omega))
          go_wp2
          go_ret
          exact ⟨ret_bool HR.out.symm, rfl⟩
        have HI : Hid (inB 1 5 L[k] = true) := by unfold Hid inB; simp; omega
        cases k with
        | zero =>
          have c0 : w.cell? ⟨b, off, none⟩ = some (.int .i64 L[0]) := by simpa using c0
          have HX : Hid (vAt L 0 = true) := by unfold Hid; rw [vAt_zero hlt]; exact HI.out
          go_wp2
          go_round
          case rel => exact ⟨1, by go_num, by omega, v_one HX.out⟩
          case measure => simp [intOf]; omega
        | succ j =>
          have cj := hc j (by omega)
          by_cases hls : L[j] < L[j + 1]
          · have HX : Hid (vAt L (j + 1) = true) := by unfold Hid; rw [vAt_succ hlt, HI.out, decide_eq_true hls]; rfl
            go_wp2
            go_round
            case rel => exact ⟨j + 2, by go_num, by omega, fun i hi => by
                          by_cases e : i = j + 1
                          · subst e; exact HX.out
                          · exact HA.out i (by omega)⟩
            case measure => simp [intOf]; omega
          · have HR : Hid (vbsB L = false) := vbs_no hlt (by rw [vAt_succ hlt, decide_eq_false hls]; simp)
            go_wp2
            go_ret
            exact ⟨ret_bool HR.out.symm, rfl⟩
      · have HR : Hid (vbsB L = decide (0 < L.length)) := vbs_yes (by omega) HA.out
        have hpos : 0 < L.length := List.length_pos_iff.2 hL
        have HT : Hid (decide (0 < L.length) = true) := by unfold Hid; simpa using hpos
        go_wp2
        go_ret
        exact ⟨ret_bool (by rw [HR.out, HT.out]), rfl⟩

set_option maxHeartbeats 2000000 in
theorem implRule_any (lo : Nat) (r : Ru) (vv : Value) (w : World) (hv : IntsIn lo w vv r.vb) (hz : RuSize r) :
    Calls Tryz.prog 154 #[.agg #[vv, .string r.kd, .string r.tm, .string r.pf]] w fun e w' => e = .returned (.bool (ruleB r)) ∧ Below w.heap.size w w' := by
  have HV := hide hv
  have HZ := hide hz
  obtain ⟨a, cap, rfl⟩ := hv.form
  clear hv hz
  have hsz := HZ.out.s3
  unfold maxLen at hsz
  go_enter Tryz.func154, Tryz.ntmps154
  go_wp2_with fail
  generalize hWa : w.alloc _ = Wa
  have HBa : Hid (Below w.heap.size w Wa) := by rw [← hWa]; exact one_al _ _
  have FA : Hid (Box Wa w.heap.size #[.slice a r.vb.length cap, .string r.kd, .string r.tm, .string r.pf]) := by rw [← hWa]; exact Box.new _ _ _ _ rfl
  clear hWa
  refine (verbsOk_any lo _ r.vb _ (HV.out.below HBa.out)).mono ?_
  rintro e w1 ⟨rfl, rfl⟩
  have a1 : w1.cell? ⟨w.heap.size, 1, none⟩ = some (.string r.kd) := FA.out.cell 1
  have a2 : w1.cell? ⟨w.heap.size, 2, none⟩ = some (.string r.tm) := FA.out.cell 2
  have a3 : w1.cell? ⟨w.heap.size, 3, none⟩ = some (.string r.pf) := FA.out.cell 3
  cases q1 : vbsB r.vb with
  | false =>
    have HR : Hid (ruleB r = false) := by unfold Hid ruleB; rw [q1]; rfl
    go_wp2
    go_ret
    exact ⟨ret_bool HR.out.symm, HBa.out⟩
  | true =>
    go_wp2_with fail
    refine (emptyOrName_any r.kd _ HZ.out.s1).mono ?_
    rintro e w2 ⟨rfl, rfl⟩
    cases q2 : emptyOrName r.kd with
    | false =>
      have HR : Hid (ruleB r = false) := by unfold Hid ruleB; rw [q1, q2]; rfl
      go_wp2
      go_ret
      exact ⟨ret_bool HR.out.symm, HBa.out⟩
    | true =>
      go_wp2_with fail
      refine (emptyOrName_any r.tm _ HZ.out.s2).mono ?_
      rintro e w3 ⟨rfl, rfl⟩
      cases q3 : emptyOrName r.tm with
      | false =>
        have HR : Hid (ruleB r = false) := by unfold Hid ruleB; rw [q1, q2, q3]; rfl
        go_wp2
        go_ret
        exact ⟨ret_bool HR.out.symm, HBa.out⟩
      | true =>
        by_cases q4 : (r.pf.size : Int) ≤ 16
        · have HR : Hid (ruleB r = allB nameByte r.pf) := by unfold Hid ruleB; rw [q1, q2, q3, decide_eq_true q4]; rfl
          go_wp2_with fail
          refine (nameBytes_any r.pf _ HZ.out.s3).mono ?_
          rintro e w4 ⟨rfl, rfl⟩
          generalize allB nameByte r.pf = Q at *
          go_wp2
          go_ret
          exact ⟨ret_bool HR.out.symm, HBa.out⟩
        · have HR : Hid (ruleB r = false) := by unfold Hid ruleB; rw [decide_eq_false q4]; simp
          go_wp2
          go_ret
          exact ⟨ret_bool HR.out.symm, HBa.out⟩
end Go.Proofs.YthfdfdlojfdckaaGreat

namespace Go.Proofs.YthfdfdlojfdckaaGreat
open Go.ChangeShapes Go.WideShapes Go.ChangeAt Go.RowKit Go.Deep

theorem Tryz.cells109 : Tryz.prog.cellsOf 109 = 2 := by kernel_rfl
section
variable {H : Type} {enc : TypeId × Value → H} {W : World}
set_option maxRecDepth 100000 in
theorem open_tm {fuel : Nat} {cs : List Value} {x : DataW H × List MemPlace} (h : DataW.trod enc Tryz.prog W 0 (fun _ => true) true fuel 109 cs = some x) :
    ∃ (m : Tm), cs = [.string m.nm, .string m.ov] ∧ TmSize m := by
  obtain ⟨xs, n, _, _, hl, hlen, hfld⟩ := DataW.trod_struct Tryz.underlying109 h
  obtain ⟨c0, c1, rfl⟩ := list2 (hl.trans Tryz.cells109)
  simp only [Array.size, List.length_cons, List.length_nil] at hlen
  have g0 : DataW.trod enc Tryz.prog W 0 (fun _ => true) true n 9 ((([c0, c1] : List Value).drop 0).take (Tryz.prog.cellsOf 9)) = xs[0]? := hfld 0 _ rfl
  have g1 : DataW.trod enc Tryz.prog W 0 (fun _ => true) true n 9 ((([c0, c1] : List Value).drop 1).take (Tryz.prog.cellsOf 9)) = xs[1]? := hfld 1 _ rfl
  simp only [Tryz.cells9, List.drop_succ_cons, List.drop_zero, List.take_succ_cons, List.take_zero] at g0 g1
  rw [List.getElem?_eq_getElem (by omega)] at g0 g1
  obtain ⟨k, e0, _, s0⟩ := DataW.trod_string Tryz.underlying9 g0
  obtain ⟨f, e1, _, s1⟩ := DataW.trod_string Tryz.underlying9 g1
  simp only [List.cons.injEq, and_true] at e0 e1
  subst e0 e1
  exact ⟨⟨k, f⟩, rfl, ⟨s0, s1⟩⟩

set_option maxRecDepth 100000 in
theorem open_tms {fuel : Nat} {c : Value} {x : DataW H × List MemPlace} (h : DataW.trod enc Tryz.prog W 0 (fun _ => true) true fuel 24 [c] = some x) : ∃ Ts, TmsAt 0 W c Ts := by
  rcases open_slice Tryz.underlying24 h with ⟨hcs, _⟩ | ⟨a, len, cap, m, n, D, Pl, hcs, _, hl, hm, hmm, _, hx⟩
  · simp only [List.cons.injEq, and_true] at hcs
    exact ⟨[], Or.inl ⟨_, _, hcs, rfl⟩⟩
  · simp only [List.cons.injEq, and_true] at hcs
    simp only [if_true] at hmm
    subst hmm
    rw [Tryz.cells109] at hx
    by_cases h0 : len = 0
    · subst h0
      exact ⟨[], Or.inl ⟨_, _, hcs, rfl⟩⟩
    · obtain ⟨Ts, hF, hall⟩ := choose_list (p := fun i (m : Tm) => TmSize m ∧ W.cells? 0 (a.add (i * 2)) 2 = some [.string m.nm, .string m.ov]) len (fun i hi => by
        obtain ⟨cs', h1, h2⟩ := hx i (by omega)
        obtain ⟨md, e, hz⟩ := open_tm h2
        rw [e] at h1
        exact ⟨md, hz, h1⟩)
      obtain ⟨b, off, spot⟩ := a
      have hspot : spot = none := by
        obtain ⟨_, h1⟩ := hall 0 (by omega)
        have := (World.cells?_some h1).2.2 0 (by omega)
        rw [Nat.zero_mul] at this
        have e0 : ((⟨b, off, spot⟩ : Addr).add 0).add 0 = ⟨b, off, spot⟩ := by simp [Addr.add]
        rw [e0] at this
        simpa using World.cell?_spot (by simpa using this)
      subst hspot
      have hcell : ∀ i (hi : i < Ts.length), W.cells? 0 ((⟨b, off, none⟩ : Addr).add (i * 2)) 2 = some [.string Ts[i].nm, .string Ts[i].ov] → TmCells W b (off + i * 2) Ts[i] := fun i hi h1 => by
        obtain ⟨_, _, hc⟩ := World.cells?_some h1
        rw [add_plain] at hc
        have q := fun j (hj : j < 2) => (add_plain b (off + i * 2) j) ▸ hc j hj
        exact ⟨by simpa using q 0 (by omega), by simpa using q 1 (by omega)⟩
      have hbw : b < W.heap.size := by
        obtain ⟨_, h1⟩ := hall 0 (by omega)
        exact World.block_lt_of_cell? W _ (hcell 0 (by omega) h1).c0
      refine ⟨Ts, Or.inr ⟨b, off, m, by rw [hcs, hF], ?_, by omega, hbw, Nat.zero_le _, by omega, fun i hi => ?_⟩⟩
      · intro e; rw [e] at hF; simp at hF; omega
      · obtain ⟨hz, h1⟩ := hall i hi
        exact ⟨hz, hcell i hi h1⟩
end
end Go.Proofs.YthfdfdlojfdckaaGreat

